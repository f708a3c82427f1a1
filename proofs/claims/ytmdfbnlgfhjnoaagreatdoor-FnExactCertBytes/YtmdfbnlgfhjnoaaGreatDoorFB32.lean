import Derived.Test.YtmdfbnlgfhjnoaaGreatDoorFB28
import Derived.Test.YtmdfbnlgfhjnoaaGreatDoorFB31
import Derived.Test.YtmdfbnlgfhjnoaaGreatDoorFB10
import Derived.Test.YtmdfbnlgfhjnoaaGreatDoorFB29
import Derived.Test.YtmdfbnlgfhjnoaaGreatDoorFB04
set_option maxRecDepth 10000
set_option maxHeartbeats 8000000
set_option linter.unusedVariables false
namespace Go.Proofs.YtmdfbnlgfhjnoaaGreatDoor
open Go.RowKit Go.Sort
def ItR (L R d:Nat)(x:It)(e:Ending)(w':World):Prop:=∃ ab nb cb ak nk ck,e=.returned (.agg #[.int .i64 x.cls,.int .i64 x.tag,.bool x.cons,.slice ab nb cb,.slice ak nk ck])∧ItZ L R d w' x ab nb cb ak nk ck
theorem ItZ.le {L B d d':Nat}{w:World}{x:It}{ab:Option Addr}{nb cb:Nat}{ak:Option Addr}{nk ck:Nat}(h:ItZ L B d w x ab nb cb ak nk ck)(hd:d≤d'):ItZ L B d' w x ab nb cb ak nk ck:=by
 induction hd with
 | refl=>exact h
 | step _ ih=>exact ih.more
theorem rowZ {L B:Nat}{w:World}{g k n c:Nat}{bs:List Int}(hr:Row w (some ⟨g,k,none⟩) n bs)(hB:B≤g)(t:Int)(hn:n≤9223372036854775807):ItZ L B 1 w (.mk 0 t false bs []) (some ⟨g,k,none⟩) n c none 0 0:=by
 refine ⟨⟨⟨hr,fun x hx h0=>?_⟩,fun e=>(by cases e),hn,KidsI.none 0 _ _ _⟩⟩
 obtain ⟨b,off,ha,hlt,_⟩:=hr.get 0 h0
 injection hx with hx
 injection ha with ha
 injection ha with ha _
 rw [← hx]
 refine ⟨.inr hB,?_⟩
 show g<_
 rw [ha]
 exact hlt
theorem Own.itzB {L B:Nat}{w:World}{a:Option Addr}{n c:Nat}{bs:List Int}(h:Own B w a n c bs)(t:Int)(hn:n≤9223372036854775807):ItZ L B 1 w (.mk 0 t false bs []) a n c none 0 0:=⟨(h.itv1 t hn).mono (fun b hs=>⟨.inr hs.1,hs.2⟩)⟩
theorem kidsI_n1 {d:Nat}{S:Nat→Prop}{X:World}{x1:It}{a1:Option Addr}{n1 c1:Nat}{k1:Option Addr}{m1 e1:Nat}(h1:ItV d S X x1 a1 n1 c1 k1 m1 e1){T:Nat→Prop}(hs:∀ b,S b→T b)(hT:T X.heap.size){W:World}{t:Nat}(hW:W=X.alloc (.cells #[.int .i64 x1.cls,.int .i64 x1.tag,.bool x1.cons,.slice a1 n1 c1,.slice k1 m1 e1] t)):KidsI (d+1) T W (some ⟨X.heap.size,0,none⟩) 1 [x1]:=by
 subst hW
 have hb:Below X.heap.size X (X.alloc (.cells #[.int .i64 x1.cls,.int .i64 x1.tag,.bool x1.cons,.slice a1 n1 c1,.slice k1 m1 e1] t)):=(Below.refl _ _).alloc (Nat.le_refl _) _
 have hc:=fun j=>cell_of_row _ X.heap.size j _ t (0,0) (heap_alloc_new X (.cells #[.int .i64 x1.cls,.int .i64 x1.tag,.bool x1.cons,.slice a1 n1 c1,.slice k1 m1 e1] t))
 have g1:=(h1.kept hb).mono hs
 refine ⟨rfl,by decide,fun k hk=>⟨X.heap.size,0,rfl,by simp,hT,?_⟩⟩
 rcases (show k=0 by omega) with rfl
 ·exact ⟨a1,n1,c1,k1,m1,e1,(hc 0).trans rfl,(hc 1).trans rfl,(hc 2).trans rfl,(hc 3).trans rfl,(hc 4).trans rfl,g1.row,g1.nil,g1.max,g1.kids⟩
theorem kidZ_n1 {L:Nat}{B d:Nat}{X:World}{x1:It}{a1:Option Addr}{n1 c1:Nat}{k1:Option Addr}{m1 e1:Nat}{t:Nat}(hB:B≤X.heap.size)(h1:ItZ L B d X x1 a1 n1 c1 k1 m1 e1):KidZ L B (X.alloc (.cells #[.int .i64 x1.cls,.int .i64 x1.tag,.bool x1.cons,.slice a1 n1 c1,.slice k1 m1 e1] t)) X.heap.size (d+1) [x1]:=by
 refine ⟨fun b=>(b<L∨B≤b)∧b<X.heap.size+1,kidsI_n1 (S:=fun b=>(b<L∨B≤b)∧b<X.heap.size) h1.it (fun b hb=>⟨hb.1,by have:=hb.2; omega⟩) ⟨.inr hB,by omega⟩ rfl,fun b hb=>⟨hb.1,?_⟩⟩
 have s:(X.alloc (.cells #[.int .i64 x1.cls,.int .i64 x1.tag,.bool x1.cons,.slice a1 n1 c1,.slice k1 m1 e1] t)).heap.size=X.heap.size+1:=by simp
 have:=hb.2
 omega
theorem kidZ_n3 {L:Nat}{B d:Nat}{X:World}{x1 x2 x3:It}{a1:Option Addr}{n1 c1:Nat}{k1:Option Addr}{m1 e1:Nat}{a2:Option Addr}{n2 c2:Nat}{k2:Option Addr}{m2 e2:Nat}{a3:Option Addr}{n3 c3:Nat}{k3:Option Addr}{m3 e3:Nat}{t:Nat}(hB:B≤X.heap.size)(h1:ItZ L B d X x1 a1 n1 c1 k1 m1 e1)(h2:ItZ L B d X x2 a2 n2 c2 k2 m2 e2)(h3:ItZ L B d X x3 a3 n3 c3 k3 m3 e3):KidZ L B (X.alloc (.cells #[.int .i64 x1.cls,.int .i64 x1.tag,.bool x1.cons,.slice a1 n1 c1,.slice k1 m1 e1,.int .i64 x2.cls,.int .i64 x2.tag,.bool x2.cons,.slice a2 n2 c2,.slice k2 m2 e2,.int .i64 x3.cls,.int .i64 x3.tag,.bool x3.cons,.slice a3 n3 c3,.slice k3 m3 e3] t)) X.heap.size (d+1) [x1,x2,x3]:=by
 refine ⟨fun b=>(b<L∨B≤b)∧b<X.heap.size+1,kidsI_n3 (S:=fun b=>(b<L∨B≤b)∧b<X.heap.size) h1.it h2.it h3.it (fun b hb=>⟨hb.1,by have:=hb.2; omega⟩) ⟨.inr hB,by omega⟩ rfl,fun b hb=>⟨hb.1,?_⟩⟩
 have s:(X.alloc (.cells #[.int .i64 x1.cls,.int .i64 x1.tag,.bool x1.cons,.slice a1 n1 c1,.slice k1 m1 e1,.int .i64 x2.cls,.int .i64 x2.tag,.bool x2.cons,.slice a2 n2 c2,.slice k2 m2 e2,.int .i64 x3.cls,.int .i64 x3.tag,.bool x3.cons,.slice a3 n3 c3,.slice k3 m3 e3] t)).heap.size=X.heap.size+1:=by simp
 have:=hb.2
 omega
theorem kidsI_n5 {d:Nat}{S:Nat→Prop}{X:World}{x1 x2 x3 x4 x5:It}{a1:Option Addr}{n1 c1:Nat}{k1:Option Addr}{m1 e1:Nat}{a2:Option Addr}{n2 c2:Nat}{k2:Option Addr}{m2 e2:Nat}{a3:Option Addr}{n3 c3:Nat}{k3:Option Addr}{m3 e3:Nat}{a4:Option Addr}{n4 c4:Nat}{k4:Option Addr}{m4 e4:Nat}{a5:Option Addr}{n5 c5:Nat}{k5:Option Addr}{m5 e5:Nat}(h1:ItV d S X x1 a1 n1 c1 k1 m1 e1)(h2:ItV d S X x2 a2 n2 c2 k2 m2 e2)(h3:ItV d S X x3 a3 n3 c3 k3 m3 e3)(h4:ItV d S X x4 a4 n4 c4 k4 m4 e4)(h5:ItV d S X x5 a5 n5 c5 k5 m5 e5){T:Nat→Prop}(hs:∀ b,S b→T b)(hT:T X.heap.size){W:World}{t:Nat}(hW:W=X.alloc (.cells #[.int .i64 x1.cls,.int .i64 x1.tag,.bool x1.cons,.slice a1 n1 c1,.slice k1 m1 e1,.int .i64 x2.cls,.int .i64 x2.tag,.bool x2.cons,.slice a2 n2 c2,.slice k2 m2 e2,.int .i64 x3.cls,.int .i64 x3.tag,.bool x3.cons,.slice a3 n3 c3,.slice k3 m3 e3,.int .i64 x4.cls,.int .i64 x4.tag,.bool x4.cons,.slice a4 n4 c4,.slice k4 m4 e4,.int .i64 x5.cls,.int .i64 x5.tag,.bool x5.cons,.slice a5 n5 c5,.slice k5 m5 e5] t)):KidsI (d+1) T W (some ⟨X.heap.size,0,none⟩) 5 [x1,x2,x3,x4,x5]:=by
 subst hW
 have hb:Below X.heap.size X (X.alloc (.cells #[.int .i64 x1.cls,.int .i64 x1.tag,.bool x1.cons,.slice a1 n1 c1,.slice k1 m1 e1,.int .i64 x2.cls,.int .i64 x2.tag,.bool x2.cons,.slice a2 n2 c2,.slice k2 m2 e2,.int .i64 x3.cls,.int .i64 x3.tag,.bool x3.cons,.slice a3 n3 c3,.slice k3 m3 e3,.int .i64 x4.cls,.int .i64 x4.tag,.bool x4.cons,.slice a4 n4 c4,.slice k4 m4 e4,.int .i64 x5.cls,.int .i64 x5.tag,.bool x5.cons,.slice a5 n5 c5,.slice k5 m5 e5] t)):=(Below.refl _ _).alloc (Nat.le_refl _) _
 have hc:=fun j=>cell_of_row _ X.heap.size j _ t (0,0) (heap_alloc_new X (.cells #[.int .i64 x1.cls,.int .i64 x1.tag,.bool x1.cons,.slice a1 n1 c1,.slice k1 m1 e1,.int .i64 x2.cls,.int .i64 x2.tag,.bool x2.cons,.slice a2 n2 c2,.slice k2 m2 e2,.int .i64 x3.cls,.int .i64 x3.tag,.bool x3.cons,.slice a3 n3 c3,.slice k3 m3 e3,.int .i64 x4.cls,.int .i64 x4.tag,.bool x4.cons,.slice a4 n4 c4,.slice k4 m4 e4,.int .i64 x5.cls,.int .i64 x5.tag,.bool x5.cons,.slice a5 n5 c5,.slice k5 m5 e5] t))
 have g1:=(h1.kept hb).mono hs
 have g2:=(h2.kept hb).mono hs
 have g3:=(h3.kept hb).mono hs
 have g4:=(h4.kept hb).mono hs
 have g5:=(h5.kept hb).mono hs
 refine ⟨rfl,by decide,fun k hk=>⟨X.heap.size,0,rfl,by simp,hT,?_⟩⟩
 rcases (show k=0∨k=1∨k=2∨k=3∨k=4 by omega) with rfl | rfl | rfl | rfl | rfl
 ·exact ⟨a1,n1,c1,k1,m1,e1,(hc 0).trans rfl,(hc 1).trans rfl,(hc 2).trans rfl,(hc 3).trans rfl,(hc 4).trans rfl,g1.row,g1.nil,g1.max,g1.kids⟩
 ·exact ⟨a2,n2,c2,k2,m2,e2,(hc 5).trans rfl,(hc 6).trans rfl,(hc 7).trans rfl,(hc 8).trans rfl,(hc 9).trans rfl,g2.row,g2.nil,g2.max,g2.kids⟩
 ·exact ⟨a3,n3,c3,k3,m3,e3,(hc 10).trans rfl,(hc 11).trans rfl,(hc 12).trans rfl,(hc 13).trans rfl,(hc 14).trans rfl,g3.row,g3.nil,g3.max,g3.kids⟩
 ·exact ⟨a4,n4,c4,k4,m4,e4,(hc 15).trans rfl,(hc 16).trans rfl,(hc 17).trans rfl,(hc 18).trans rfl,(hc 19).trans rfl,g4.row,g4.nil,g4.max,g4.kids⟩
 ·exact ⟨a5,n5,c5,k5,m5,e5,(hc 20).trans rfl,(hc 21).trans rfl,(hc 22).trans rfl,(hc 23).trans rfl,(hc 24).trans rfl,g5.row,g5.nil,g5.max,g5.kids⟩
theorem kidZ_n5 {L:Nat}{B d:Nat}{X:World}{x1 x2 x3 x4 x5:It}{a1:Option Addr}{n1 c1:Nat}{k1:Option Addr}{m1 e1:Nat}{a2:Option Addr}{n2 c2:Nat}{k2:Option Addr}{m2 e2:Nat}{a3:Option Addr}{n3 c3:Nat}{k3:Option Addr}{m3 e3:Nat}{a4:Option Addr}{n4 c4:Nat}{k4:Option Addr}{m4 e4:Nat}{a5:Option Addr}{n5 c5:Nat}{k5:Option Addr}{m5 e5:Nat}{t:Nat}(hB:B≤X.heap.size)(h1:ItZ L B d X x1 a1 n1 c1 k1 m1 e1)(h2:ItZ L B d X x2 a2 n2 c2 k2 m2 e2)(h3:ItZ L B d X x3 a3 n3 c3 k3 m3 e3)(h4:ItZ L B d X x4 a4 n4 c4 k4 m4 e4)(h5:ItZ L B d X x5 a5 n5 c5 k5 m5 e5):KidZ L B (X.alloc (.cells #[.int .i64 x1.cls,.int .i64 x1.tag,.bool x1.cons,.slice a1 n1 c1,.slice k1 m1 e1,.int .i64 x2.cls,.int .i64 x2.tag,.bool x2.cons,.slice a2 n2 c2,.slice k2 m2 e2,.int .i64 x3.cls,.int .i64 x3.tag,.bool x3.cons,.slice a3 n3 c3,.slice k3 m3 e3,.int .i64 x4.cls,.int .i64 x4.tag,.bool x4.cons,.slice a4 n4 c4,.slice k4 m4 e4,.int .i64 x5.cls,.int .i64 x5.tag,.bool x5.cons,.slice a5 n5 c5,.slice k5 m5 e5] t)) X.heap.size (d+1) [x1,x2,x3,x4,x5]:=by
 refine ⟨fun b=>(b<L∨B≤b)∧b<X.heap.size+1,kidsI_n5 (S:=fun b=>(b<L∨B≤b)∧b<X.heap.size) h1.it h2.it h3.it h4.it h5.it (fun b hb=>⟨hb.1,by have:=hb.2; omega⟩) ⟨.inr hB,by omega⟩ rfl,fun b hb=>⟨hb.1,?_⟩⟩
 have s:(X.alloc (.cells #[.int .i64 x1.cls,.int .i64 x1.tag,.bool x1.cons,.slice a1 n1 c1,.slice k1 m1 e1,.int .i64 x2.cls,.int .i64 x2.tag,.bool x2.cons,.slice a2 n2 c2,.slice k2 m2 e2,.int .i64 x3.cls,.int .i64 x3.tag,.bool x3.cons,.slice a3 n3 c3,.slice k3 m3 e3,.int .i64 x4.cls,.int .i64 x4.tag,.bool x4.cons,.slice a4 n4 c4,.slice k4 m4 e4,.int .i64 x5.cls,.int .i64 x5.tag,.bool x5.cons,.slice a5 n5 c5,.slice k5 m5 e5] t)).heap.size=X.heap.size+1:=by simp
 have:=hb.2
 omega
theorem kidsI_n18 {d:Nat}{S:Nat→Prop}{X:World}{x1 x2 x3 x4 x5 x6 x7 x8 x9 x10 x11 x12 x13 x14 x15 x16 x17 x18:It}{a1:Option Addr}{n1 c1:Nat}{k1:Option Addr}{m1 e1:Nat}{a2:Option Addr}{n2 c2:Nat}{k2:Option Addr}{m2 e2:Nat}{a3:Option Addr}{n3 c3:Nat}{k3:Option Addr}{m3 e3:Nat}{a4:Option Addr}{n4 c4:Nat}{k4:Option Addr}{m4 e4:Nat}{a5:Option Addr}{n5 c5:Nat}{k5:Option Addr}{m5 e5:Nat}{a6:Option Addr}{n6 c6:Nat}{k6:Option Addr}{m6 e6:Nat}{a7:Option Addr}{n7 c7:Nat}{k7:Option Addr}{m7 e7:Nat}{a8:Option Addr}{n8 c8:Nat}{k8:Option Addr}{m8 e8:Nat}{a9:Option Addr}{n9 c9:Nat}{k9:Option Addr}{m9 e9:Nat}{a10:Option Addr}{n10 c10:Nat}{k10:Option Addr}{m10 e10:Nat}{a11:Option Addr}{n11 c11:Nat}{k11:Option Addr}{m11 e11:Nat}{a12:Option Addr}{n12 c12:Nat}{k12:Option Addr}{m12 e12:Nat}{a13:Option Addr}{n13 c13:Nat}{k13:Option Addr}{m13 e13:Nat}{a14:Option Addr}{n14 c14:Nat}{k14:Option Addr}{m14 e14:Nat}{a15:Option Addr}{n15 c15:Nat}{k15:Option Addr}{m15 e15:Nat}{a16:Option Addr}{n16 c16:Nat}{k16:Option Addr}{m16 e16:Nat}{a17:Option Addr}{n17 c17:Nat}{k17:Option Addr}{m17 e17:Nat}{a18:Option Addr}{n18 c18:Nat}{k18:Option Addr}{m18 e18:Nat}(h1:ItV d S X x1 a1 n1 c1 k1 m1 e1)(h2:ItV d S X x2 a2 n2 c2 k2 m2 e2)(h3:ItV d S X x3 a3 n3 c3 k3 m3 e3)(h4:ItV d S X x4 a4 n4 c4 k4 m4 e4)(h5:ItV d S X x5 a5 n5 c5 k5 m5 e5)(h6:ItV d S X x6 a6 n6 c6 k6 m6 e6)(h7:ItV d S X x7 a7 n7 c7 k7 m7 e7)(h8:ItV d S X x8 a8 n8 c8 k8 m8 e8)(h9:ItV d S X x9 a9 n9 c9 k9 m9 e9)(h10:ItV d S X x10 a10 n10 c10 k10 m10 e10)(h11:ItV d S X x11 a11 n11 c11 k11 m11 e11)(h12:ItV d S X x12 a12 n12 c12 k12 m12 e12)(h13:ItV d S X x13 a13 n13 c13 k13 m13 e13)(h14:ItV d S X x14 a14 n14 c14 k14 m14 e14)(h15:ItV d S X x15 a15 n15 c15 k15 m15 e15)(h16:ItV d S X x16 a16 n16 c16 k16 m16 e16)(h17:ItV d S X x17 a17 n17 c17 k17 m17 e17)(h18:ItV d S X x18 a18 n18 c18 k18 m18 e18){T:Nat→Prop}(hs:∀ b,S b→T b)(hT:T X.heap.size){W:World}{t:Nat}(hW:W=X.alloc (.cells #[.int .i64 x1.cls,.int .i64 x1.tag,.bool x1.cons,.slice a1 n1 c1,.slice k1 m1 e1,.int .i64 x2.cls,.int .i64 x2.tag,.bool x2.cons,.slice a2 n2 c2,.slice k2 m2 e2,.int .i64 x3.cls,.int .i64 x3.tag,.bool x3.cons,.slice a3 n3 c3,.slice k3 m3 e3,.int .i64 x4.cls,.int .i64 x4.tag,.bool x4.cons,.slice a4 n4 c4,.slice k4 m4 e4,.int .i64 x5.cls,.int .i64 x5.tag,.bool x5.cons,.slice a5 n5 c5,.slice k5 m5 e5,.int .i64 x6.cls,.int .i64 x6.tag,.bool x6.cons,.slice a6 n6 c6,.slice k6 m6 e6,.int .i64 x7.cls,.int .i64 x7.tag,.bool x7.cons,.slice a7 n7 c7,.slice k7 m7 e7,.int .i64 x8.cls,.int .i64 x8.tag,.bool x8.cons,.slice a8 n8 c8,.slice k8 m8 e8,.int .i64 x9.cls,.int .i64 x9.tag,.bool x9.cons,.slice a9 n9 c9,.slice k9 m9 e9,.int .i64 x10.cls,.int .i64 x10.tag,.bool x10.cons,.slice a10 n10 c10,.slice k10 m10 e10,.int .i64 x11.cls,.int .i64 x11.tag,.bool x11.cons,.slice a11 n11 c11,.slice k11 m11 e11,.int .i64 x12.cls,.int .i64 x12.tag,.bool x12.cons,.slice a12 n12 c12,.slice k12 m12 e12,.int .i64 x13.cls,.int .i64 x13.tag,.bool x13.cons,.slice a13 n13 c13,.slice k13 m13 e13,.int .i64 x14.cls,.int .i64 x14.tag,.bool x14.cons,.slice a14 n14 c14,.slice k14 m14 e14,.int .i64 x15.cls,.int .i64 x15.tag,.bool x15.cons,.slice a15 n15 c15,.slice k15 m15 e15,.int .i64 x16.cls,.int .i64 x16.tag,.bool x16.cons,.slice a16 n16 c16,.slice k16 m16 e16,.int .i64 x17.cls,.int .i64 x17.tag,.bool x17.cons,.slice a17 n17 c17,.slice k17 m17 e17,.int .i64 x18.cls,.int .i64 x18.tag,.bool x18.cons,.slice a18 n18 c18,.slice k18 m18 e18] t)):KidsI (d+1) T W (some ⟨X.heap.size,0,none⟩) 18 [x1,x2,x3,x4,x5,x6,x7,x8,x9,x10,x11,x12,x13,x14,x15,x16,x17,x18]:=by
 subst hW
 have hb:Below X.heap.size X (X.alloc (.cells #[.int .i64 x1.cls,.int .i64 x1.tag,.bool x1.cons,.slice a1 n1 c1,.slice k1 m1 e1,.int .i64 x2.cls,.int .i64 x2.tag,.bool x2.cons,.slice a2 n2 c2,.slice k2 m2 e2,.int .i64 x3.cls,.int .i64 x3.tag,.bool x3.cons,.slice a3 n3 c3,.slice k3 m3 e3,.int .i64 x4.cls,.int .i64 x4.tag,.bool x4.cons,.slice a4 n4 c4,.slice k4 m4 e4,.int .i64 x5.cls,.int .i64 x5.tag,.bool x5.cons,.slice a5 n5 c5,.slice k5 m5 e5,.int .i64 x6.cls,.int .i64 x6.tag,.bool x6.cons,.slice a6 n6 c6,.slice k6 m6 e6,.int .i64 x7.cls,.int .i64 x7.tag,.bool x7.cons,.slice a7 n7 c7,.slice k7 m7 e7,.int .i64 x8.cls,.int .i64 x8.tag,.bool x8.cons,.slice a8 n8 c8,.slice k8 m8 e8,.int .i64 x9.cls,.int .i64 x9.tag,.bool x9.cons,.slice a9 n9 c9,.slice k9 m9 e9,.int .i64 x10.cls,.int .i64 x10.tag,.bool x10.cons,.slice a10 n10 c10,.slice k10 m10 e10,.int .i64 x11.cls,.int .i64 x11.tag,.bool x11.cons,.slice a11 n11 c11,.slice k11 m11 e11,.int .i64 x12.cls,.int .i64 x12.tag,.bool x12.cons,.slice a12 n12 c12,.slice k12 m12 e12,.int .i64 x13.cls,.int .i64 x13.tag,.bool x13.cons,.slice a13 n13 c13,.slice k13 m13 e13,.int .i64 x14.cls,.int .i64 x14.tag,.bool x14.cons,.slice a14 n14 c14,.slice k14 m14 e14,.int .i64 x15.cls,.int .i64 x15.tag,.bool x15.cons,.slice a15 n15 c15,.slice k15 m15 e15,.int .i64 x16.cls,.int .i64 x16.tag,.bool x16.cons,.slice a16 n16 c16,.slice k16 m16 e16,.int .i64 x17.cls,.int .i64 x17.tag,.bool x17.cons,.slice a17 n17 c17,.slice k17 m17 e17,.int .i64 x18.cls,.int .i64 x18.tag,.bool x18.cons,.slice a18 n18 c18,.slice k18 m18 e18] t)):=(Below.refl _ _).alloc (Nat.le_refl _) _
 have hc:=fun j=>cell_of_row _ X.heap.size j _ t (0,0) (heap_alloc_new X (.cells #[.int .i64 x1.cls,.int .i64 x1.tag,.bool x1.cons,.slice a1 n1 c1,.slice k1 m1 e1,.int .i64 x2.cls,.int .i64 x2.tag,.bool x2.cons,.slice a2 n2 c2,.slice k2 m2 e2,.int .i64 x3.cls,.int .i64 x3.tag,.bool x3.cons,.slice a3 n3 c3,.slice k3 m3 e3,.int .i64 x4.cls,.int .i64 x4.tag,.bool x4.cons,.slice a4 n4 c4,.slice k4 m4 e4,.int .i64 x5.cls,.int .i64 x5.tag,.bool x5.cons,.slice a5 n5 c5,.slice k5 m5 e5,.int .i64 x6.cls,.int .i64 x6.tag,.bool x6.cons,.slice a6 n6 c6,.slice k6 m6 e6,.int .i64 x7.cls,.int .i64 x7.tag,.bool x7.cons,.slice a7 n7 c7,.slice k7 m7 e7,.int .i64 x8.cls,.int .i64 x8.tag,.bool x8.cons,.slice a8 n8 c8,.slice k8 m8 e8,.int .i64 x9.cls,.int .i64 x9.tag,.bool x9.cons,.slice a9 n9 c9,.slice k9 m9 e9,.int .i64 x10.cls,.int .i64 x10.tag,.bool x10.cons,.slice a10 n10 c10,.slice k10 m10 e10,.int .i64 x11.cls,.int .i64 x11.tag,.bool x11.cons,.slice a11 n11 c11,.slice k11 m11 e11,.int .i64 x12.cls,.int .i64 x12.tag,.bool x12.cons,.slice a12 n12 c12,.slice k12 m12 e12,.int .i64 x13.cls,.int .i64 x13.tag,.bool x13.cons,.slice a13 n13 c13,.slice k13 m13 e13,.int .i64 x14.cls,.int .i64 x14.tag,.bool x14.cons,.slice a14 n14 c14,.slice k14 m14 e14,.int .i64 x15.cls,.int .i64 x15.tag,.bool x15.cons,.slice a15 n15 c15,.slice k15 m15 e15,.int .i64 x16.cls,.int .i64 x16.tag,.bool x16.cons,.slice a16 n16 c16,.slice k16 m16 e16,.int .i64 x17.cls,.int .i64 x17.tag,.bool x17.cons,.slice a17 n17 c17,.slice k17 m17 e17,.int .i64 x18.cls,.int .i64 x18.tag,.bool x18.cons,.slice a18 n18 c18,.slice k18 m18 e18] t))
 have g1:=(h1.kept hb).mono hs
 have g2:=(h2.kept hb).mono hs
 have g3:=(h3.kept hb).mono hs
 have g4:=(h4.kept hb).mono hs
 have g5:=(h5.kept hb).mono hs
 have g6:=(h6.kept hb).mono hs
 have g7:=(h7.kept hb).mono hs
 have g8:=(h8.kept hb).mono hs
 have g9:=(h9.kept hb).mono hs
 have g10:=(h10.kept hb).mono hs
 have g11:=(h11.kept hb).mono hs
 have g12:=(h12.kept hb).mono hs
 have g13:=(h13.kept hb).mono hs
 have g14:=(h14.kept hb).mono hs
 have g15:=(h15.kept hb).mono hs
 have g16:=(h16.kept hb).mono hs
 have g17:=(h17.kept hb).mono hs
 have g18:=(h18.kept hb).mono hs
 refine ⟨rfl,by decide,fun k hk=>⟨X.heap.size,0,rfl,by simp,hT,?_⟩⟩
 rcases (show k=0∨k=1∨k=2∨k=3∨k=4∨k=5∨k=6∨k=7∨k=8∨k=9∨k=10∨k=11∨k=12∨k=13∨k=14∨k=15∨k=16∨k=17 by omega) with rfl | rfl | rfl | rfl | rfl | rfl | rfl | rfl | rfl | rfl | rfl | rfl | rfl | rfl | rfl | rfl | rfl | rfl
 ·exact ⟨a1,n1,c1,k1,m1,e1,(hc 0).trans rfl,(hc 1).trans rfl,(hc 2).trans rfl,(hc 3).trans rfl,(hc 4).trans rfl,g1.row,g1.nil,g1.max,g1.kids⟩
 ·exact ⟨a2,n2,c2,k2,m2,e2,(hc 5).trans rfl,(hc 6).trans rfl,(hc 7).trans rfl,(hc 8).trans rfl,(hc 9).trans rfl,g2.row,g2.nil,g2.max,g2.kids⟩
 ·exact ⟨a3,n3,c3,k3,m3,e3,(hc 10).trans rfl,(hc 11).trans rfl,(hc 12).trans rfl,(hc 13).trans rfl,(hc 14).trans rfl,g3.row,g3.nil,g3.max,g3.kids⟩
 ·exact ⟨a4,n4,c4,k4,m4,e4,(hc 15).trans rfl,(hc 16).trans rfl,(hc 17).trans rfl,(hc 18).trans rfl,(hc 19).trans rfl,g4.row,g4.nil,g4.max,g4.kids⟩
 ·exact ⟨a5,n5,c5,k5,m5,e5,(hc 20).trans rfl,(hc 21).trans rfl,(hc 22).trans rfl,(hc 23).trans rfl,(hc 24).trans rfl,g5.row,g5.nil,g5.max,g5.kids⟩
 ·exact ⟨a6,n6,c6,k6,m6,e6,(hc 25).trans rfl,(hc 26).trans rfl,(hc 27).trans rfl,(hc 28).trans rfl,(hc 29).trans rfl,g6.row,g6.nil,g6.max,g6.kids⟩
 ·exact ⟨a7,n7,c7,k7,m7,e7,(hc 30).trans rfl,(hc 31).trans rfl,(hc 32).trans rfl,(hc 33).trans rfl,(hc 34).trans rfl,g7.row,g7.nil,g7.max,g7.kids⟩
 ·exact ⟨a8,n8,c8,k8,m8,e8,(hc 35).trans rfl,(hc 36).trans rfl,(hc 37).trans rfl,(hc 38).trans rfl,(hc 39).trans rfl,g8.row,g8.nil,g8.max,g8.kids⟩
 ·exact ⟨a9,n9,c9,k9,m9,e9,(hc 40).trans rfl,(hc 41).trans rfl,(hc 42).trans rfl,(hc 43).trans rfl,(hc 44).trans rfl,g9.row,g9.nil,g9.max,g9.kids⟩
 ·exact ⟨a10,n10,c10,k10,m10,e10,(hc 45).trans rfl,(hc 46).trans rfl,(hc 47).trans rfl,(hc 48).trans rfl,(hc 49).trans rfl,g10.row,g10.nil,g10.max,g10.kids⟩
 ·exact ⟨a11,n11,c11,k11,m11,e11,(hc 50).trans rfl,(hc 51).trans rfl,(hc 52).trans rfl,(hc 53).trans rfl,(hc 54).trans rfl,g11.row,g11.nil,g11.max,g11.kids⟩
 ·exact ⟨a12,n12,c12,k12,m12,e12,(hc 55).trans rfl,(hc 56).trans rfl,(hc 57).trans rfl,(hc 58).trans rfl,(hc 59).trans rfl,g12.row,g12.nil,g12.max,g12.kids⟩
 ·exact ⟨a13,n13,c13,k13,m13,e13,(hc 60).trans rfl,(hc 61).trans rfl,(hc 62).trans rfl,(hc 63).trans rfl,(hc 64).trans rfl,g13.row,g13.nil,g13.max,g13.kids⟩
 ·exact ⟨a14,n14,c14,k14,m14,e14,(hc 65).trans rfl,(hc 66).trans rfl,(hc 67).trans rfl,(hc 68).trans rfl,(hc 69).trans rfl,g14.row,g14.nil,g14.max,g14.kids⟩
 ·exact ⟨a15,n15,c15,k15,m15,e15,(hc 70).trans rfl,(hc 71).trans rfl,(hc 72).trans rfl,(hc 73).trans rfl,(hc 74).trans rfl,g15.row,g15.nil,g15.max,g15.kids⟩
 ·exact ⟨a16,n16,c16,k16,m16,e16,(hc 75).trans rfl,(hc 76).trans rfl,(hc 77).trans rfl,(hc 78).trans rfl,(hc 79).trans rfl,g16.row,g16.nil,g16.max,g16.kids⟩
 ·exact ⟨a17,n17,c17,k17,m17,e17,(hc 80).trans rfl,(hc 81).trans rfl,(hc 82).trans rfl,(hc 83).trans rfl,(hc 84).trans rfl,g17.row,g17.nil,g17.max,g17.kids⟩
 ·exact ⟨a18,n18,c18,k18,m18,e18,(hc 85).trans rfl,(hc 86).trans rfl,(hc 87).trans rfl,(hc 88).trans rfl,(hc 89).trans rfl,g18.row,g18.nil,g18.max,g18.kids⟩
theorem kidZ_n18 {L:Nat}{B d:Nat}{X:World}{x1 x2 x3 x4 x5 x6 x7 x8 x9 x10 x11 x12 x13 x14 x15 x16 x17 x18:It}{a1:Option Addr}{n1 c1:Nat}{k1:Option Addr}{m1 e1:Nat}{a2:Option Addr}{n2 c2:Nat}{k2:Option Addr}{m2 e2:Nat}{a3:Option Addr}{n3 c3:Nat}{k3:Option Addr}{m3 e3:Nat}{a4:Option Addr}{n4 c4:Nat}{k4:Option Addr}{m4 e4:Nat}{a5:Option Addr}{n5 c5:Nat}{k5:Option Addr}{m5 e5:Nat}{a6:Option Addr}{n6 c6:Nat}{k6:Option Addr}{m6 e6:Nat}{a7:Option Addr}{n7 c7:Nat}{k7:Option Addr}{m7 e7:Nat}{a8:Option Addr}{n8 c8:Nat}{k8:Option Addr}{m8 e8:Nat}{a9:Option Addr}{n9 c9:Nat}{k9:Option Addr}{m9 e9:Nat}{a10:Option Addr}{n10 c10:Nat}{k10:Option Addr}{m10 e10:Nat}{a11:Option Addr}{n11 c11:Nat}{k11:Option Addr}{m11 e11:Nat}{a12:Option Addr}{n12 c12:Nat}{k12:Option Addr}{m12 e12:Nat}{a13:Option Addr}{n13 c13:Nat}{k13:Option Addr}{m13 e13:Nat}{a14:Option Addr}{n14 c14:Nat}{k14:Option Addr}{m14 e14:Nat}{a15:Option Addr}{n15 c15:Nat}{k15:Option Addr}{m15 e15:Nat}{a16:Option Addr}{n16 c16:Nat}{k16:Option Addr}{m16 e16:Nat}{a17:Option Addr}{n17 c17:Nat}{k17:Option Addr}{m17 e17:Nat}{a18:Option Addr}{n18 c18:Nat}{k18:Option Addr}{m18 e18:Nat}{t:Nat}(hB:B≤X.heap.size)(h1:ItZ L B d X x1 a1 n1 c1 k1 m1 e1)(h2:ItZ L B d X x2 a2 n2 c2 k2 m2 e2)(h3:ItZ L B d X x3 a3 n3 c3 k3 m3 e3)(h4:ItZ L B d X x4 a4 n4 c4 k4 m4 e4)(h5:ItZ L B d X x5 a5 n5 c5 k5 m5 e5)(h6:ItZ L B d X x6 a6 n6 c6 k6 m6 e6)(h7:ItZ L B d X x7 a7 n7 c7 k7 m7 e7)(h8:ItZ L B d X x8 a8 n8 c8 k8 m8 e8)(h9:ItZ L B d X x9 a9 n9 c9 k9 m9 e9)(h10:ItZ L B d X x10 a10 n10 c10 k10 m10 e10)(h11:ItZ L B d X x11 a11 n11 c11 k11 m11 e11)(h12:ItZ L B d X x12 a12 n12 c12 k12 m12 e12)(h13:ItZ L B d X x13 a13 n13 c13 k13 m13 e13)(h14:ItZ L B d X x14 a14 n14 c14 k14 m14 e14)(h15:ItZ L B d X x15 a15 n15 c15 k15 m15 e15)(h16:ItZ L B d X x16 a16 n16 c16 k16 m16 e16)(h17:ItZ L B d X x17 a17 n17 c17 k17 m17 e17)(h18:ItZ L B d X x18 a18 n18 c18 k18 m18 e18):KidZ L B (X.alloc (.cells #[.int .i64 x1.cls,.int .i64 x1.tag,.bool x1.cons,.slice a1 n1 c1,.slice k1 m1 e1,.int .i64 x2.cls,.int .i64 x2.tag,.bool x2.cons,.slice a2 n2 c2,.slice k2 m2 e2,.int .i64 x3.cls,.int .i64 x3.tag,.bool x3.cons,.slice a3 n3 c3,.slice k3 m3 e3,.int .i64 x4.cls,.int .i64 x4.tag,.bool x4.cons,.slice a4 n4 c4,.slice k4 m4 e4,.int .i64 x5.cls,.int .i64 x5.tag,.bool x5.cons,.slice a5 n5 c5,.slice k5 m5 e5,.int .i64 x6.cls,.int .i64 x6.tag,.bool x6.cons,.slice a6 n6 c6,.slice k6 m6 e6,.int .i64 x7.cls,.int .i64 x7.tag,.bool x7.cons,.slice a7 n7 c7,.slice k7 m7 e7,.int .i64 x8.cls,.int .i64 x8.tag,.bool x8.cons,.slice a8 n8 c8,.slice k8 m8 e8,.int .i64 x9.cls,.int .i64 x9.tag,.bool x9.cons,.slice a9 n9 c9,.slice k9 m9 e9,.int .i64 x10.cls,.int .i64 x10.tag,.bool x10.cons,.slice a10 n10 c10,.slice k10 m10 e10,.int .i64 x11.cls,.int .i64 x11.tag,.bool x11.cons,.slice a11 n11 c11,.slice k11 m11 e11,.int .i64 x12.cls,.int .i64 x12.tag,.bool x12.cons,.slice a12 n12 c12,.slice k12 m12 e12,.int .i64 x13.cls,.int .i64 x13.tag,.bool x13.cons,.slice a13 n13 c13,.slice k13 m13 e13,.int .i64 x14.cls,.int .i64 x14.tag,.bool x14.cons,.slice a14 n14 c14,.slice k14 m14 e14,.int .i64 x15.cls,.int .i64 x15.tag,.bool x15.cons,.slice a15 n15 c15,.slice k15 m15 e15,.int .i64 x16.cls,.int .i64 x16.tag,.bool x16.cons,.slice a16 n16 c16,.slice k16 m16 e16,.int .i64 x17.cls,.int .i64 x17.tag,.bool x17.cons,.slice a17 n17 c17,.slice k17 m17 e17,.int .i64 x18.cls,.int .i64 x18.tag,.bool x18.cons,.slice a18 n18 c18,.slice k18 m18 e18] t)) X.heap.size (d+1) [x1,x2,x3,x4,x5,x6,x7,x8,x9,x10,x11,x12,x13,x14,x15,x16,x17,x18]:=by
 refine ⟨fun b=>(b<L∨B≤b)∧b<X.heap.size+1,kidsI_n18 (S:=fun b=>(b<L∨B≤b)∧b<X.heap.size) h1.it h2.it h3.it h4.it h5.it h6.it h7.it h8.it h9.it h10.it h11.it h12.it h13.it h14.it h15.it h16.it h17.it h18.it (fun b hb=>⟨hb.1,by have:=hb.2; omega⟩) ⟨.inr hB,by omega⟩ rfl,fun b hb=>⟨hb.1,?_⟩⟩
 have s:(X.alloc (.cells #[.int .i64 x1.cls,.int .i64 x1.tag,.bool x1.cons,.slice a1 n1 c1,.slice k1 m1 e1,.int .i64 x2.cls,.int .i64 x2.tag,.bool x2.cons,.slice a2 n2 c2,.slice k2 m2 e2,.int .i64 x3.cls,.int .i64 x3.tag,.bool x3.cons,.slice a3 n3 c3,.slice k3 m3 e3,.int .i64 x4.cls,.int .i64 x4.tag,.bool x4.cons,.slice a4 n4 c4,.slice k4 m4 e4,.int .i64 x5.cls,.int .i64 x5.tag,.bool x5.cons,.slice a5 n5 c5,.slice k5 m5 e5,.int .i64 x6.cls,.int .i64 x6.tag,.bool x6.cons,.slice a6 n6 c6,.slice k6 m6 e6,.int .i64 x7.cls,.int .i64 x7.tag,.bool x7.cons,.slice a7 n7 c7,.slice k7 m7 e7,.int .i64 x8.cls,.int .i64 x8.tag,.bool x8.cons,.slice a8 n8 c8,.slice k8 m8 e8,.int .i64 x9.cls,.int .i64 x9.tag,.bool x9.cons,.slice a9 n9 c9,.slice k9 m9 e9,.int .i64 x10.cls,.int .i64 x10.tag,.bool x10.cons,.slice a10 n10 c10,.slice k10 m10 e10,.int .i64 x11.cls,.int .i64 x11.tag,.bool x11.cons,.slice a11 n11 c11,.slice k11 m11 e11,.int .i64 x12.cls,.int .i64 x12.tag,.bool x12.cons,.slice a12 n12 c12,.slice k12 m12 e12,.int .i64 x13.cls,.int .i64 x13.tag,.bool x13.cons,.slice a13 n13 c13,.slice k13 m13 e13,.int .i64 x14.cls,.int .i64 x14.tag,.bool x14.cons,.slice a14 n14 c14,.slice k14 m14 e14,.int .i64 x15.cls,.int .i64 x15.tag,.bool x15.cons,.slice a15 n15 c15,.slice k15 m15 e15,.int .i64 x16.cls,.int .i64 x16.tag,.bool x16.cons,.slice a16 n16 c16,.slice k16 m16 e16,.int .i64 x17.cls,.int .i64 x17.tag,.bool x17.cons,.slice a17 n17 c17,.slice k17 m17 e17,.int .i64 x18.cls,.int .i64 x18.tag,.bool x18.cons,.slice a18 n18 c18,.slice k18 m18 e18] t)).heap.size=X.heap.size+1:=by simp
 have:=hb.2
 omega
def flgI (b:Bool):It:=.mk 0 1 false [if b then 255 else 0] []
def parI (x:PT):It:=strI [numI x.attr,bytI (bytesOf x.val)]
def namI (xs:List PT):It:=strI [lstI (xs.map parI)]
def gneI (x:GE):It:=strI [numI x.g.kind,bytI (bytesOf x.g.text),numI x.g.addr,numI x.g.bits,namI x.parts]
def kyI (p:Int × Int × Int):It:=strI [numI p.1,bytI (eightI p.2.1),numI p.2.2]
def mapI (p:Int × Int):It:=strI [numI p.1,numI p.2]
def exI (x:XP):It:=strI [numI x.id,flgI x.crit,bytI x.val]
def ceK (x:CE):List It:=[numI x.ser,namI x.iss,namI x.sub,numI x.frm,numI x.til,kyI x.key,flgI x.ca,numI x.room,numI x.uses,lstI (x.nms.map gneI),lstI (x.per.map gneI),lstI (x.den.map gneI),lstI (x.pol.map numI),lstI (x.maps.map mapI),numI x.need,numI x.nomap,numI x.noany,lstI (x.ext.map exI)]
theorem numberItem_R (n:Int)(L:Nat)(w:World)(h:W64 n) :
  Calls Tryz.prog 101 #[.int .i64 n] w fun e w'=>ItR L w.heap.size 1 (numI n) e w'∧Below w.heap.size w w':=by
 refine (numberItem_agg n w h.1 h.2).mono ?_
 rintro e w1 ⟨g,k,rfl,hge,hr,hb⟩
 exact ⟨⟨_,_,_,_,_,_,rfl,rowZ hr hge 2 (by have:=wsz_bd n; omega)⟩,hb⟩
theorem digestItem_R (v:Int)(L:Nat)(w:World)(h:U64 v) :
  Calls Tryz.prog 155 #[.int .u64 v] w fun e w'=>ItR L w.heap.size 1 (bytI (eightI v)) e w'∧Below w.heap.size w w':=by
 refine (digestItem_agg v w h.1 h.2).mono ?_
 rintro e w1 ⟨g,rfl,hge,hr,hb⟩
 exact ⟨⟨_,_,_,_,_,_,rfl,rowZ hr hge 4 (by decide)⟩,hb⟩
theorem bytesItem_aggC (a:Option Addr)(n c:Nat)(bs:List Int)(w:World) :
  Calls Tryz.prog 60 #[.slice a n c] w fun e w'=>e=.returned (.agg #[.int .i64 0,.int .i64 4,.bool false,.slice a n c,.slice none 0 0])∧Below w.heap.size w w':=bytesItem_any a n c bs w
theorem bytesItem_R (a:Option Addr)(n c:Nat)(bs:List Int)(L:Nat)(w:World)(h:Row w a n bs)(hL:∀ x,a=some x→0<n→x.block<L)(hnil:a=none→c=0)(hn:n≤9223372036854775807) :
  Calls Tryz.prog 60 #[.slice a n c] w fun e w'=>ItR L w.heap.size 1 (bytI bs) e w'∧Below w.heap.size w w':=by
 refine (bytesItem_aggC a n c bs w).mono ?_
 rintro e w1 ⟨rfl,hb⟩
 exact ⟨⟨_,_,_,_,_,_,rfl,row_itz (h.kept hb) hL hnil 4 hn⟩,hb⟩
theorem ItZ.put {L d:Nat}{w w2:World}{x:It}{ab:Option Addr}{nb cb:Nat}{ak:Option Addr}{nk ck:Nat}{B:Nat}(hZ:ItZ L B d w2 x ab nb cb ak nk ck)(hL:L≤w.heap.size)(hB:w.heap.size<B)(u0 u1 u2 u3 u4:Value):ItZ L w.heap.size d (put5I w2 w.heap.size u0 u1 u2 u3 u4) x ab nb cb ak nk ck:=(hZ.touched (put5_touch w2 w.heap.size u0 u1 u2 u3 u4) ⟨hL,hB⟩).mono (Nat.le_of_lt hB)
theorem textItem_R (s:ByteArray)(L:Nat)(w:World)(hs:s.size≤9223372036854775807)(hL:L≤w.heap.size) :
  Calls Tryz.prog 158 #[.string s] w fun e w'=>ItR L w.heap.size 1 (bytI (bytesOf s)) e w'∧Below w.heap.size w w':=by
 have hbx:=box5_below w
 have hsz:=box5_size w
 have HB5:Hid (_=_):=box5_new w
 obtain ⟨cp,W2,hcv,hrow,hb3⟩:=conv_str (w.alloc (.cells #[.int .i64 0,.int .i64 0,.bool false,.slice none 0 0,.slice none 0 0] 75)) s
 have hb3':Below (box5 w).heap.size (box5 w) W2:=hb3
 have HR:Hid (Row W2 (some ⟨w.heap.size+1,0,none⟩) s.size (bytesOf s)):=by
  have h9:Row W2 (some ⟨(box5 w).heap.size,0,none⟩) s.size (bytesOf s):=hrow
  rw [hsz] at h9
  exact h9
 clear hrow hb3
 go_enter Tryz.func158,Tryz.ntmps158
 go_wp2_with fail
 refine (bytesItem_aggC (some ⟨w.heap.size+1,0,none⟩) s.size cp (bytesOf s) W2).mono ?_
 rintro e w2 ⟨rfl,hb2⟩
 have hb23:Below (box5 w).heap.size (box5 w) w2:=keepT hb3' hb2
 have HR2:Hid (Row w2 (some ⟨w.heap.size+1,0,none⟩) s.size (bytesOf s)):=HR.out.kept hb2
 have h5:=below_kept HB5.out hb23
 obtain ⟨_,q0,q1,q2,q3,q4,q5,q6,q7,q8,q9⟩:=Box5.of h5
 have H5:Hid (_=_):=h5
 have B2:Below w.heap.size w w2:=keepT hbx hb23
 clear h5 hb2 hb23 hcv hb3'
 go_wp2_with fail
 try simp only [Exit.inBlock,Exit.then]
 have T:=put5_touch w2 w.heap.size (.int .i64 0) (.int .i64 4) (.bool false) (.slice (some ⟨w.heap.size+1,0,none⟩) s.size cp) (.slice none 0 0)
 have hZ:ItZ L (w.heap.size+1) 1 w2 (bytI (bytesOf s)) (some ⟨w.heap.size+1,0,none⟩) s.size cp none 0 0:=rowZ HR2.out (Nat.le_refl _) 4 hs
 exact bodyPost_ret (results_it rfl _ w.heap.size rfl _ _ _ _ _ _ (put5_heap H5.out _ _ _ _ _)) rfl ⟨⟨_,_,_,_,_,_,rfl,hZ.put hL (by omega) _ _ _ _ _⟩,B2.trans (T.below (Nat.le_refl _) B2.size)⟩
theorem boolTag_R (w:World):Calls Tryz.prog 184 #[.agg #[]] w fun e w'=>e=.returned (.int .i64 1)∧Below w.heap.size w w':=by
 go_enter Tryz.func184,Tryz.ntmps184
 go_wp2
 go_ret
 exact ⟨rfl,(Below.refl _ _).alloc (Nat.le_refl _) _⟩
theorem boolItem_0 (w:World)(L:Nat)(hL:L≤w.heap.size):Calls Tryz.prog 156 #[.agg #[],.agg #[.bool false,.int .i64 0,.slice none 0 0,.slice none 0 0,.slice none 0 0]] w fun e w'=>ItR L w.heap.size 1 (flgI false) e w'∧Below w.heap.size w w':=by
 obtain ⟨wa,hwa⟩:∃ wa,wa=(w.alloc (.cells #[] 188)).alloc (.cells #[.bool false,.int .i64 0,.slice none 0 0,.slice none 0 0,.slice none 0 0] 193):=⟨_,rfl⟩
 have hbA:Below w.heap.size w wa:=by rw [hwa]; exact ((Below.refl _ _).alloc (Nat.le_refl _) _).alloc (by simp) _
 have hsA:wa.heap.size=w.heap.size+1+1:=by rw [hwa]; simp
 obtain ⟨w1,hw1⟩:∃ w1,w1=box5 wa:=⟨_,rfl⟩
 have hbb:Below w.heap.size w w1:=by rw [hw1]; exact keepT hbA (box5_below wa)
 have hsz:w1.heap.size=w.heap.size+3:=by rw [hw1,box5_size,hsA]
 have HB:Hid (w1.heap[w.heap.size+1+1]? = some (.cells #[.int .i64 0,.int .i64 0,.bool false,.slice none 0 0,.slice none 0 0] 75 (0,0))):=by show _=_; rw [← hsA,hw1]; exact box5_new wa
 have HW:Hid (w1=((w.alloc (.cells #[] 188)).alloc (.cells #[.bool false,.int .i64 0,.slice none 0 0,.slice none 0 0,.slice none 0 0] 193)).alloc (.cells #[.int .i64 0,.int .i64 0,.bool false,.slice none 0 0,.slice none 0 0] 75)):=by show _=_; rw [hw1,hwa]; rfl
 clear hw1 hwa hbA hsA
 go_enter Tryz.func156,Tryz.ntmps156
 go_wp2_with fail
 rw [← HW.out]
 clear HW
 refine (boolTag_R w1).mono ?_
 rintro e w2 ⟨rfl,hb2⟩
 have hal:Below w2.heap.size w2 (w2.alloc (.cells #[.int .u8 0] 5)):=(Below.refl _ _).alloc (Nat.le_refl _) _
 have h5:=below_kept (below_kept HB.out hb2) hal
 obtain ⟨_,q0,q1,q2,q3,q4,q5,q6,q7,q8,q9⟩:=Box5.of h5
 have H5:Hid (_=_):=h5
 have B2:Below w.heap.size w (w2.alloc (.cells #[.int .u8 0] 5)):=keepT (keepT hbb hb2) hal
 have hs2:=hb2.size
 have HN:Hid ((w2.alloc (.cells #[.int .u8 0] 5)).heap[w2.heap.size]? = some (.cells #[.int .u8 0] 5 (0,0))):=heap_alloc_new w2 _
 clear h5 hb2 hal
 go_wp2_with fail
 try simp only [Exit.inBlock,Exit.then]
 have T:=put5_touch (w2.alloc (.cells #[.int .u8 0] 5)) (w.heap.size+1+1) (.int .i64 0) (.int .i64 1) (.bool false) (.slice (some ⟨w2.heap.size,0,none⟩) 1 1) (.slice none 0 0)
 have hR:Row (w2.alloc (.cells #[.int .u8 0] 5)) (some ⟨w2.heap.size,0,none⟩) 1 [0]:=by
  refine ⟨rfl,fun k hk=>⟨w2.heap.size,0,rfl,by simp,?_⟩,fun k=>?_⟩
  ·obtain rfl:k=0:=by omega
   exact (cell_of_row _ _ 0 _ 5 (0,0) HN.out).trans rfl
  ·match k with
   | 0=>decide
   | k+1=>simp
 have hZ:ItZ L (w.heap.size+3) 1 (w2.alloc (.cells #[.int .u8 0] 5)) (flgI false) (some ⟨w2.heap.size,0,none⟩) 1 1 none 0 0:=rowZ hR (by omega) 1 (by decide)
 exact bodyPost_ret (results_it rfl _ (w.heap.size+1+1) rfl _ _ _ _ _ _ (put5_heap H5.out _ _ _ _ _)) rfl ⟨⟨_,_,_,_,_,_,rfl,(hZ.touched T ⟨by omega,by omega⟩).mono (by omega)⟩,B2.trans (T.below (by omega) (by have:=B2.size; omega))⟩
theorem boolItem_1 (w:World)(L:Nat)(hL:L≤w.heap.size):Calls Tryz.prog 156 #[.agg #[],.agg #[.bool false,.int .i64 1,.slice none 0 0,.slice none 0 0,.slice none 0 0]] w fun e w'=>ItR L w.heap.size 1 (flgI true) e w'∧Below w.heap.size w w':=by
 obtain ⟨wa,hwa⟩:∃ wa,wa=(w.alloc (.cells #[] 188)).alloc (.cells #[.bool false,.int .i64 1,.slice none 0 0,.slice none 0 0,.slice none 0 0] 193):=⟨_,rfl⟩
 have hbA:Below w.heap.size w wa:=by rw [hwa]; exact ((Below.refl _ _).alloc (Nat.le_refl _) _).alloc (by simp) _
 have hsA:wa.heap.size=w.heap.size+1+1:=by rw [hwa]; simp
 obtain ⟨w1,hw1⟩:∃ w1,w1=box5 wa:=⟨_,rfl⟩
 have hbb:Below w.heap.size w w1:=by rw [hw1]; exact keepT hbA (box5_below wa)
 have hsz:w1.heap.size=w.heap.size+3:=by rw [hw1,box5_size,hsA]
 have HB:Hid (w1.heap[w.heap.size+1+1]? = some (.cells #[.int .i64 0,.int .i64 0,.bool false,.slice none 0 0,.slice none 0 0] 75 (0,0))):=by show _=_; rw [← hsA,hw1]; exact box5_new wa
 have HW:Hid (w1=((w.alloc (.cells #[] 188)).alloc (.cells #[.bool false,.int .i64 1,.slice none 0 0,.slice none 0 0,.slice none 0 0] 193)).alloc (.cells #[.int .i64 0,.int .i64 0,.bool false,.slice none 0 0,.slice none 0 0] 75)):=by show _=_; rw [hw1,hwa]; rfl
 clear hw1 hwa hbA hsA
 go_enter Tryz.func156,Tryz.ntmps156
 go_wp2_with fail
 rw [← HW.out]
 clear HW
 refine (boolTag_R w1).mono ?_
 rintro e w2 ⟨rfl,hb2⟩
 have hal:Below w2.heap.size w2 (w2.alloc (.cells #[.int .u8 255] 5)):=(Below.refl _ _).alloc (Nat.le_refl _) _
 have h5:=below_kept (below_kept HB.out hb2) hal
 obtain ⟨_,q0,q1,q2,q3,q4,q5,q6,q7,q8,q9⟩:=Box5.of h5
 have H5:Hid (_=_):=h5
 have B2:Below w.heap.size w (w2.alloc (.cells #[.int .u8 255] 5)):=keepT (keepT hbb hb2) hal
 have hs2:=hb2.size
 have HN:Hid ((w2.alloc (.cells #[.int .u8 255] 5)).heap[w2.heap.size]? = some (.cells #[.int .u8 255] 5 (0,0))):=heap_alloc_new w2 _
 clear h5 hb2 hal
 go_wp2_with fail
 try simp only [Exit.inBlock,Exit.then]
 have T:=put5_touch (w2.alloc (.cells #[.int .u8 255] 5)) (w.heap.size+1+1) (.int .i64 0) (.int .i64 1) (.bool false) (.slice (some ⟨w2.heap.size,0,none⟩) 1 1) (.slice none 0 0)
 have hR:Row (w2.alloc (.cells #[.int .u8 255] 5)) (some ⟨w2.heap.size,0,none⟩) 1 [255]:=by
  refine ⟨rfl,fun k hk=>⟨w2.heap.size,0,rfl,by simp,?_⟩,fun k=>?_⟩
  ·obtain rfl:k=0:=by omega
   exact (cell_of_row _ _ 0 _ 5 (0,0) HN.out).trans rfl
  ·match k with
   | 0=>decide
   | k+1=>simp
 have hZ:ItZ L (w.heap.size+3) 1 (w2.alloc (.cells #[.int .u8 255] 5)) (flgI true) (some ⟨w2.heap.size,0,none⟩) 1 1 none 0 0:=rowZ hR (by omega) 1 (by decide)
 exact bodyPost_ret (results_it rfl _ (w.heap.size+1+1) rfl _ _ _ _ _ _ (put5_heap H5.out _ _ _ _ _)) rfl ⟨⟨_,_,_,_,_,_,rfl,(hZ.touched T ⟨by omega,by omega⟩).mono (by omega)⟩,B2.trans (T.below (by omega) (by have:=B2.size; omega))⟩
theorem flagItem_R (b:Bool)(w:World)(L:Nat)(hL:L≤w.heap.size):Calls Tryz.prog 104 #[.bool b] w fun e w'=>ItR L w.heap.size 1 (flgI b) e w'∧Below w.heap.size w w':=by
 have hbx:=box5_below w
 have hsz:=box5_size w
 have HB5:Hid (_=_):=box5_new w
 cases b
 ·go_enter Tryz.func104,Tryz.ntmps104
  go_wp2_with fail
  refine (boolItem_0 (box5 w) L (by omega)).mono ?_
  rintro e w2 ⟨⟨ab,nb,cb,ak,nk,ck,rfl,hit⟩,hb2⟩
  have HIT:Hid (_):=hit
  have h5:=below_kept HB5.out hb2
  obtain ⟨_,q0,q1,q2,q3,q4,q5,q6,q7,q8,q9⟩:=Box5.of h5
  have H5:Hid (_=_):=h5
  have B2:Below w.heap.size w w2:=keepT hbx hb2
  clear h5 hb2 hit
  go_wp2_with fail
  try simp only [Exit.inBlock,Exit.then]
  have T:=put5_touch w2 w.heap.size (.int .i64 (flgI false).cls) (.int .i64 (flgI false).tag) (.bool (flgI false).cons) (.slice ab nb cb) (.slice ak nk ck)
  exact bodyPost_ret (results_it rfl _ w.heap.size rfl _ _ _ _ _ _ (put5_heap H5.out _ _ _ _ _)) rfl ⟨⟨_,_,_,_,_,_,rfl,HIT.out.put hL (by omega) _ _ _ _ _⟩,B2.trans (T.below (Nat.le_refl _) B2.size)⟩
 ·go_enter Tryz.func104,Tryz.ntmps104
  go_wp2_with fail
  refine (boolItem_1 (box5 w) L (by omega)).mono ?_
  rintro e w2 ⟨⟨ab,nb,cb,ak,nk,ck,rfl,hit⟩,hb2⟩
  have HIT:Hid (_):=hit
  have h5:=below_kept HB5.out hb2
  obtain ⟨_,q0,q1,q2,q3,q4,q5,q6,q7,q8,q9⟩:=Box5.of h5
  have H5:Hid (_=_):=h5
  have B2:Below w.heap.size w w2:=keepT hbx hb2
  clear h5 hb2 hit
  go_wp2_with fail
  try simp only [Exit.inBlock,Exit.then]
  have T:=put5_touch w2 w.heap.size (.int .i64 (flgI true).cls) (.int .i64 (flgI true).tag) (.bool (flgI true).cons) (.slice ab nb cb) (.slice ak nk ck)
  exact bodyPost_ret (results_it rfl _ w.heap.size rfl _ _ _ _ _ _ (put5_heap H5.out _ _ _ _ _)) rfl ⟨⟨_,_,_,_,_,_,rfl,HIT.out.put hL (by omega) _ _ _ _ _⟩,B2.trans (T.below (Nat.le_refl _) B2.size)⟩
theorem structItem_R {L R d n:Nat}{gr:Nat}{ks:List It}{w:World}(h:KidZ L R w gr d ks)(hn:ks.length=n) :
  Calls Tryz.prog 152 #[.slice (some ⟨gr,0,none⟩) n n] w fun e w'=>ItR L R d (strI ks) e w'∧Below w.heap.size w w':=by
 subst hn
 refine (structItem_agg (some ⟨gr,0,none⟩) ks.length ks.length w).mono ?_
 rintro e w1 ⟨rfl,hb⟩
 exact ⟨⟨_,_,_,_,_,_,rfl,(h.kept hb).itz 0 16⟩,hb⟩
theorem ownItem_R {L R d n:Nat}{gr:Nat}{ks:List It}{w:World}(tag:Int)(h:KidZ L R w gr d ks)(hn:ks.length=n) :
  Calls Tryz.prog 59 #[.int .i64 tag,.slice (some ⟨gr,0,none⟩) n n] w fun e w'=>ItR L R d (boxI tag ks) e w'∧Below w.heap.size w w':=by
 subst hn
 refine (ownItem_agg tag (some ⟨gr,0,none⟩) ks.length ks.length w).mono ?_
 rintro e w1 ⟨rfl,hb⟩
 exact ⟨⟨_,_,_,_,_,_,rfl,(h.kept hb).itz 1 tag⟩,hb⟩
open Go.RowKit Go.Sort
theorem l2Leaf_aggC (tag:Int)(a:Option Addr)(n c:Nat)(bs:List Int)(w:World)(h:Row w a n bs)(hc:a=none→c=0)(hn:n≤1000) :
  Calls Tryz.prog 136 #[.int .i64 0,.int .i64 tag,.slice a n c] w fun e w'=>∃ a c,e=.returned (.agg #[.int .i64 0,.int .i64 tag,.bool false,.slice a n c,.slice none 0 0])∧Own (w.heap.size) w' a n c bs∧Below w.heap.size w w':=(l2Leaf_any tag a n c bs w h hc hn).mono fun e w' ⟨a,c,he,ho,hb⟩=>⟨a,c,he,ho.mono (by omega),hb⟩
theorem l9Num_R (n:Int)(L:Nat)(w:World) :
  Calls Tryz.prog 81 #[.int .i64 n] w fun e w'=>ItR L w.heap.size 1 (numI n) e w'∧Below w.heap.size w w':=by
 refine (l9Num_agg n w).mono ?_
 rintro e w1 ⟨a,c,rfl,ho,hb⟩
 exact ⟨⟨_,_,_,_,_,_,rfl,Own.itzB (ho.mono (Nat.le_succ _)) 2 (by have:=wsz_bd n; omega)⟩,hb⟩
theorem l9Bytes_R (a:Option Addr)(n c:Nat)(bs:List Int)(L:Nat)(w:World)(h:Row w a n bs)(hc:a=none→c=0)(hn:n≤1000) :
  Calls Tryz.prog 83 #[.slice a n c] w fun e w'=>ItR L w.heap.size 1 (bytI bs) e w'∧Below w.heap.size w w':=by
 refine (l9Bytes_agg a n c bs w h hc hn).mono ?_
 rintro e w1 ⟨a,c,rfl,ho,hb⟩
 exact ⟨⟨_,_,_,_,_,_,rfl,Own.itzB (ho.mono (Nat.le_succ _)) 4 (by omega)⟩,hb⟩
theorem l9Struct_R {L R d n:Nat}{gr:Nat}{ks:List It}{w:World}(h:KidZ L R w gr d ks)(hn:ks.length=n) :
  Calls Tryz.prog 80 #[.slice (some ⟨gr,0,none⟩) n n] w fun e w'=>ItR L R d (strI ks) e w'∧Below w.heap.size w w':=by
 subst hn
 refine (l9Struct_agg (some ⟨gr,0,none⟩) ks.length ks.length w).mono ?_
 rintro e w1 ⟨rfl,hb⟩
 exact ⟨⟨_,_,_,_,_,_,rfl,(h.kept hb).itz 0 16⟩,hb⟩
theorem l2Box_R {L R d n:Nat}{gr:Nat}{ks:List It}{w:World}(tag:Int)(h:KidZ L R w gr d ks)(hn:ks.length=n) :
  Calls Tryz.prog 84 #[.int .i64 1,.int .i64 tag,.slice (some ⟨gr,0,none⟩) n n] w fun e w'=>ItR L R d (boxI tag ks) e w'∧Below w.heap.size w w':=by
 subst hn
 refine (l2BoxC_agg 1 tag (some ⟨gr,0,none⟩) ks.length ks.length w).mono ?_
 rintro e w1 ⟨rfl,hb⟩
 exact ⟨⟨_,_,_,_,_,_,rfl,(h.kept hb).itz 1 tag⟩,hb⟩
theorem l9List_R {L R d n co:Nat}{ao:Option Addr}{ks:List It}{w:World}(h:ListZ L R d w ao n ks) :
  Calls Tryz.prog 89 #[.slice ao n co] w fun e w'=>ItR L R d (lstI ks) e w'∧Below w.heap.size w w':=by
 refine (l9List_agg ao n co w).mono ?_
 rintro e w1 ⟨rfl,hb⟩
 exact ⟨⟨_,_,_,_,_,_,rfl,(h.kept hb).itz⟩,hb⟩
theorem l9Flag_R (b:Bool)(w:World)(L:Nat)(hL:L≤w.heap.size):Calls Tryz.prog 82 #[.bool b] w fun e w'=>ItR L w.heap.size 1 (flgI b) e w'∧Below w.heap.size w w':=by
 have hbx:=box5_below w
 have hsz:=box5_size w
 have HB5:Hid (_=_):=box5_new w
 cases b
 ·have hbA:Below (box5 w).heap.size (box5 w) ((box5 w).alloc (.cells #[.int .u8 0] 5)):=(Below.refl _ _).alloc (Nat.le_refl _) _
  have HN:Hid (((box5 w).alloc (.cells #[.int .u8 0] 5)).heap[(box5 w).heap.size]? = some (.cells #[.int .u8 0] 5 (0,0))):=heap_alloc_new (box5 w) _
  have hR:Row ((box5 w).alloc (.cells #[.int .u8 0] 5)) (some ⟨w.heap.size+1,0,none⟩) 1 [0]:=by
   refine ⟨rfl,fun k hk=>⟨w.heap.size+1,0,rfl,by simp [hsz],?_⟩,fun k=>?_⟩
   ·obtain rfl:k=0:=by omega
    have:=HN.out
    rw [hsz] at this
    exact (cell_of_row _ _ 0 _ 5 (0,0) this).trans rfl
   ·match k with
    | 0=>decide
    | k+1=>simp
  have HL:Hid (_):=l2Leaf_aggC 1 (some ⟨w.heap.size+1,0,none⟩) 1 1 [0] ((box5 w).alloc (.cells #[.int .u8 0] 5)) hR (fun e=>by cases e) (by decide)
  have HB5b:=below_kept HB5.out hbA
  have hsb:((box5 w).alloc (.cells #[.int .u8 0] 5)).heap.size=w.heap.size+2:=by simp [hsz]
  have hbx2:Below w.heap.size w ((box5 w).alloc (.cells #[.int .u8 0] 5)):=keepT hbx hbA
  have HB6:Hid (_=_):=HB5b
  clear hR HN hbA HB5b
  go_enter Tryz.func82,Tryz.ntmps82
  go_wp2_with fail
  refine Calls.mono HL.out ?_
  rintro e w2 ⟨a,c,rfl,ho,hb2⟩
  have HO:Hid (_):=ho
  have h5:=below_kept HB6.out hb2
  obtain ⟨_,q0,q1,q2,q3,q4,q5,q6,q7,q8,q9⟩:=Box5.of h5
  have H5:Hid (_=_):=h5
  have B2:Below w.heap.size w w2:=keepT hbx2 hb2
  clear h5 hb2 ho HL HB6
  go_wp2_with fail
  try simp only [Exit.inBlock,Exit.then]
  have T:=put5_touch w2 w.heap.size (.int .i64 0) (.int .i64 1) (.bool false) (.slice a 1 c) (.slice none 0 0)
  have hZ:ItZ L (w.heap.size+1) 1 w2 (flgI false) a 1 c none 0 0:=Own.itzB (HO.out.mono (by omega)) 1 (by decide)
  exact bodyPost_ret (results_it rfl _ w.heap.size rfl _ _ _ _ _ _ (put5_heap H5.out _ _ _ _ _)) rfl ⟨⟨_,_,_,_,_,_,rfl,hZ.put hL (by omega) _ _ _ _ _⟩,B2.trans (T.below (Nat.le_refl _) B2.size)⟩
 ·have hbA:Below (box5 w).heap.size (box5 w) ((box5 w).alloc (.cells #[.int .u8 255] 5)):=(Below.refl _ _).alloc (Nat.le_refl _) _
  have HN:Hid (((box5 w).alloc (.cells #[.int .u8 255] 5)).heap[(box5 w).heap.size]? = some (.cells #[.int .u8 255] 5 (0,0))):=heap_alloc_new (box5 w) _
  have hR:Row ((box5 w).alloc (.cells #[.int .u8 255] 5)) (some ⟨w.heap.size+1,0,none⟩) 1 [255]:=by
   refine ⟨rfl,fun k hk=>⟨w.heap.size+1,0,rfl,by simp [hsz],?_⟩,fun k=>?_⟩
   ·obtain rfl:k=0:=by omega
    have:=HN.out
    rw [hsz] at this
    exact (cell_of_row _ _ 0 _ 5 (0,0) this).trans rfl
   ·match k with
    | 0=>decide
    | k+1=>simp
  have HL:Hid (_):=l2Leaf_aggC 1 (some ⟨w.heap.size+1,0,none⟩) 1 1 [255] ((box5 w).alloc (.cells #[.int .u8 255] 5)) hR (fun e=>by cases e) (by decide)
  have HB5b:=below_kept HB5.out hbA
  have hsb:((box5 w).alloc (.cells #[.int .u8 255] 5)).heap.size=w.heap.size+2:=by simp [hsz]
  have hbx2:Below w.heap.size w ((box5 w).alloc (.cells #[.int .u8 255] 5)):=keepT hbx hbA
  have HB6:Hid (_=_):=HB5b
  clear hR HN hbA HB5b
  go_enter Tryz.func82,Tryz.ntmps82
  go_wp2_with fail
  refine Calls.mono HL.out ?_
  rintro e w2 ⟨a,c,rfl,ho,hb2⟩
  have HO:Hid (_):=ho
  have h5:=below_kept HB6.out hb2
  obtain ⟨_,q0,q1,q2,q3,q4,q5,q6,q7,q8,q9⟩:=Box5.of h5
  have H5:Hid (_=_):=h5
  have B2:Below w.heap.size w w2:=keepT hbx2 hb2
  clear h5 hb2 ho HL HB6
  go_wp2_with fail
  try simp only [Exit.inBlock,Exit.then]
  have T:=put5_touch w2 w.heap.size (.int .i64 0) (.int .i64 1) (.bool false) (.slice a 1 c) (.slice none 0 0)
  have hZ:ItZ L (w.heap.size+1) 1 w2 (flgI true) a 1 c none 0 0:=Own.itzB (HO.out.mono (by omega)) 1 (by decide)
  exact bodyPost_ret (results_it rfl _ w.heap.size rfl _ _ _ _ _ _ (put5_heap H5.out _ _ _ _ _)) rfl ⟨⟨_,_,_,_,_,_,rfl,hZ.put hL (by omega) _ _ _ _ _⟩,B2.trans (T.below (Nat.le_refl _) B2.size)⟩
theorem opw_convert {P:Program}{Q:Exit→Act→World→Prop}{o:Oper}{a:Act}{w w':World}{K:Act→World→Prop}(t1 t2 x:Nat)(ho:o.op=.convert t1 t2 (.tmp x))(p v:Value)(hx:aT a x=p)(hr:(convert t1 t2 p).run P w=.ok v w')(h:K (a.put o.dst v) w'):o.wp P a w K Q:=by
 refine opw_value v ?_ h
 have hx':a.eval (.tmp x)=p:=hx
 unfold execOp
 simp only [ho]
 rw [hx']
 simp [hr]
structure RowQ (Q:Nat)(w:World)(g n:Nat)(bs:List Int):Prop where
 row:Row w (some ⟨g,0,none⟩) n bs
 ge:Q≤g
theorem RowQ.kept {Q:Nat}{w w':World}{g n:Nat}{bs:List Int}(h:RowQ Q w g n bs)(hb:Below w.heap.size w w'):RowQ Q w' g n bs:=⟨h.row.kept hb,h.ge⟩
theorem RowQ.grown {Q:Nat}{w w':World}{g n:Nat}{bs:List Int}{row:Option Nat}{L:Nat}(h:RowQ Q w g n bs)(hg:w.grownBy w' row)(hlt:∀ j,row=some j→L≤j∧j<Q):RowQ Q w' g n bs :=
 ⟨(h.row.atG.touch (P:=fun k=>row=some k) (fun k hk e=>by have:=hlt k e; have:=h.ge; omega) (touchX_g hg (fun k hk=>hk))).row,h.ge⟩
theorem ownItZ_empty (d L:Nat)(w:World):OwnItZ d L w.heap.size (w.alloc (.cells #[] 75)) (some ⟨w.heap.size,0,none⟩) 0 0 []:=by
 have hrow:(w.alloc (.cells #[] 75)).ownsRow 0 75 5 (.slice (some ⟨w.heap.size,0,none⟩) 0 0) 0 []:=⟨rfl,.inr ⟨w.heap.size,0,#[],rfl,Nat.zero_le _,heap_alloc_new w _,Nat.le_refl _,by decide,rfl,rfl⟩⟩
 exact ⟨⟨rfl,by decide,⟨[],hrow,fun k hk=>absurd hk (Nat.not_lt_zero _)⟩,fun b hb hc=>hc.2.2 hb⟩,fun b hb=>Nat.le_of_eq (by injection hb)⟩
theorem indexPart (bq oq n c kq:Nat)(W:World)(h:kq<n):(Instr.indexAt 38 (.slice (some ⟨bq,oq,none⟩) n c) (.int .i64 (kq:Int))).run Tryz.prog W=.ok (.pointer (some ⟨bq,oq+kq * 2,none⟩)) W:=by
 refine (run_indexAt_slice (P:=Tryz.prog) (w:=W) 38 ⟨bq,oq,none⟩ n c .i64 (kq:Int) (by kernel_rfl)).trans ?_
 rw [if_pos ⟨by omega,by omega⟩]
 have hs:(sizeOf (Tryz.prog.elem 38)).run Tryz.prog W=.ok 2 W:=by kernel_rfl
 rw [hs]
 simp [Result.andThen,Addr.add_lit]
theorem indexPolMap (bq oq n c kq:Nat)(W:World)(h:kq<n):(Instr.indexAt 43 (.slice (some ⟨bq,oq,none⟩) n c) (.int .i64 (kq:Int))).run Tryz.prog W=.ok (.pointer (some ⟨bq,oq+kq * 2,none⟩)) W:=by
 refine (run_indexAt_slice (P:=Tryz.prog) (w:=W) 43 ⟨bq,oq,none⟩ n c .i64 (kq:Int) (by kernel_rfl)).trans ?_
 rw [if_pos ⟨by omega,by omega⟩]
 have hs:(sizeOf (Tryz.prog.elem 43)).run Tryz.prog W=.ok 2 W:=by kernel_rfl
 rw [hs]
 simp [Result.andThen,Addr.add_lit]
theorem indexExt (bq oq n c kq:Nat)(W:World)(h:kq<n):(Instr.indexAt 44 (.slice (some ⟨bq,oq,none⟩) n c) (.int .i64 (kq:Int))).run Tryz.prog W=.ok (.pointer (some ⟨bq,oq+kq * 3,none⟩)) W:=by
 refine (run_indexAt_slice (P:=Tryz.prog) (w:=W) 44 ⟨bq,oq,none⟩ n c .i64 (kq:Int) (by kernel_rfl)).trans ?_
 rw [if_pos ⟨by omega,by omega⟩]
 have hs:(sizeOf (Tryz.prog.elem 44)).run Tryz.prog W=.ok 3 W:=by kernel_rfl
 rw [hs]
 simp [Result.andThen,Addr.add_lit]
open Go.RowKit
theorem wrapSH (x:Int)(h0 : -9223372036854775808≤x)(h1:x≤9223372036854775807):IntKind.i64.wrap x=x:=by
 rw [IntKind.wrap_i64]; omega
def mtxL (k:Nat)(out:ByteArray):ByteArray:=if h:k=0 then out else mtxL (k / 10) (strOfNums [((48+k % 10:Nat):Int)]++out)
termination_by k
decreasing_by omega
theorem mtxL_zero (out:ByteArray):mtxL 0 out=out:=by rw [mtxL]; simp
theorem mtxL_pos {k:Nat}(h:k≠0)(out:ByteArray):mtxL k out=mtxL (k / 10) (strOfNums [((48+k % 10:Nat):Int)]++out):=by rw [mtxL]; simp [h]
def mtx (k:Nat):ByteArray:=(⟨#[109]⟩:ByteArray)++mtxL k ⟨#[]⟩
theorem markText_any (k:Nat)(w:World)(h0:0<k)(h1:k≤1000000000000000000) :
  Calls Tryz.prog 117 #[.int .i64 k] w fun e w'=>e=.returned (.string (mtx k))∧Below w.heap.size w w':=by
 have hki:¬ ((k:Int)≤0):=by omega
 go_enter Tryz.func117,Tryz.ntmps117
 go_wp2
 go_loopw [0,3] (fun i s wr=>∃ (j:Nat) (out:ByteArray),out.size+j≤1000000000000000000∧i=.int .i64 j∧s=.string out∧Hid (mtxL j out=mtxL k ⟨#[]⟩)∧Below w.heap.size w wr) (fun i _ _=>(intOf i).toNat)
 case atStart=>exact ⟨k,⟨#[]⟩,by show 0+k≤1000000000000000000; omega,rfl,rfl,rfl,Below.refl _ _⟩
 case round =>
  obtain ⟨j,out,hj,rfl,rfl,HM,hbr⟩:=hrel
  by_cases hj0:j=0
  ·subst hj0
   have HE:Hid (out=mtxL k ⟨#[]⟩):=by show _=_; rw [← HM.out,mtxL_zero]
   have hni:¬ ((0:Int)<((0:Nat):Int)):=by decide
   have hsz:¬ (9223372036854775807<1+out.size):=by omega
   go_wp2
   go_ret
   exact ⟨by unfold mtx; rw [← HE.out]; rfl,hbr⟩
  ·have hji:(0:Int)<(j:Int):=by omega
   have htm:(j:Int).tmod 10=(j:Int) % 10:=Int.tmod_eq_emod_of_nonneg (by omega)
   have hw1:IntKind.i64.wrap ((j:Int).tmod 10)=(j:Int) % 10:=by rw [htm]; exact wrapSH _ (by omega) (by omega)
   have hw2:IntKind.i64.wrap (48+(j:Int) % 10)=48+(j:Int) % 10:=wrapSH _ (by omega) (by omega)
   have hw3:IntKind.u8.wrap (48+(j:Int) % 10)=48+(j:Int) % 10:=by rw [IntKind.wrap_u8]; omega
   have hd:((48+j % 10:Nat):Int)=48+(j:Int) % 10:=by omega
   have HO:Hid (Own w.heap.size (wr.alloc (.cells #[.int .u8 (48+(j:Int) % 10)] 5)) (some ⟨wr.heap.size,0,none⟩) 1 1 [48+(j:Int) % 10]):=⟨⟨rfl,.inr ⟨wr.heap.size,1,#[.int .u8 (48+(j:Int) % 10)],rfl,hbr.size,heap_alloc_new wr _,Nat.le_refl _,by decide,rfl,rfl⟩⟩,fun k=>by cases k with | zero=>exact ⟨by show (0:Int)≤48+(j:Int) % 10; omega,by show 48+(j:Int) % 10≤255; omega⟩ | succ k=>simp⟩
   have hcv:=convert_own HO.out
   have HM2:Hid (mtxL (j / 10) (strOfNums [48+(j:Int) % 10]++out)=mtxL k ⟨#[]⟩):=by show _=_; rw [← hd,← mtxL_pos hj0]; exact HM.out
   have hdv:(j:Int).tdiv 10=((j / 10:Nat):Int):=by rw [Int.tdiv_eq_ediv_of_nonneg (by omega)]; omega
   have hw4:IntKind.i64.wrap ((j:Int).tdiv 10)=((j / 10:Nat):Int):=by rw [hdv]; exact wrapSH _ (by omega) (by omega)
   have hs1:(strOfNums [48+(j:Int) % 10]).size=1:=strOfNums_size _
   have hsz:¬ (9223372036854775807<(strOfNums [48+(j:Int) % 10]).size+out.size):=by rw [hs1]; omega
   have B2:Hid (Below w.heap.size w (wr.alloc (.cells #[.int .u8 (48+(j:Int) % 10)] 5))):=hbr.trans (((Below.refl _ _).alloc (Nat.le_refl _) _).mono hbr.size)
   go_wp2
   refine ⟨⟨j / 10,strOfNums [48+(j:Int) % 10]++out,?_,by go_num,rfl,HM2,B2.out⟩,?_⟩
   ·rw [ByteArray.size_append,hs1]; omega
   ·show ((j:Int) / 10).toNat<(j:Int).toNat
    omega
end Go.Proofs.YtmdfbnlgfhjnoaaGreatDoor
