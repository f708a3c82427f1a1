import Derived.Test.YtmdfbnlgfhjnoaaGreatDoorFA26
import Derived.Test.YtmdfbnlgfhjnoaaGreatDoorFA35
import Derived.Test.YtmdfbnlgfhjnoaaGreatDoorFA15
set_option maxRecDepth 10000
set_option maxHeartbeats 8000000
set_option linter.unusedVariables false
namespace Go.Proofs.YtmdfbnlgfhjnoaaGreatDoor
open Go.RowKit Go.Sort
def ItR (L R d:Nat)(x:It)(e:Ending)(w':World):Prop:=∃ ab nb cb ak nk ck,e=.returned (.agg #[.int .i64 x.cls,.int .i64 x.tag,.bool x.cons,.slice ab nb cb,.slice ak nk ck])∧ItZ L R d w' x ab nb cb ak nk ck
theorem ItZ.le {L B d d':Nat}{w:World}{x:It}{ab:Option Addr}{nb cb:Nat}{ak:Option Addr}{nk ck:Nat}(h:ItZ L B d w x ab nb cb ak nk ck)(hd:d≤d'):ItZ L B d' w x ab nb cb ak nk ck:=by
 induction hd with
 | refl=>exact h
 | step _ ih=>exact ih.more
theorem rowZ {L B:Nat}{w:World}{g k n c:Nat}{bs:List Int}(hr:Row w (some ⟨g,k,none⟩) n bs)(hB:B≤g)(t:Int)(hn:n≤9223372036854775807):ItZ L B 1 w (.mk 0 t false bs []) (some ⟨g,k,none⟩) n c none 0 0:=by
 refine ⟨⟨⟨hr,fun x hx h0=>?_⟩,fun e=>(by cases e),hn,KidsI.none 0 _ _ _⟩⟩
 obtain ⟨b,off,ha,hlt,_⟩:=hr.get 0 h0
 injection hx with hx
 injection ha with ha
 injection ha with ha _
 rw [← hx]
 refine ⟨.inr hB,?_⟩
 show g<_
 rw [ha]
 exact hlt
theorem Own.itzB {L B:Nat}{w:World}{a:Option Addr}{n c:Nat}{bs:List Int}(h:Own B w a n c bs)(t:Int)(hn:n≤9223372036854775807):ItZ L B 1 w (.mk 0 t false bs []) a n c none 0 0:=⟨(h.itv1 t hn).mono (fun b hs=>⟨.inr hs.1,hs.2⟩)⟩
theorem kidsI_n1 {d:Nat}{S:Nat→Prop}{X:World}{x1:It}{a1:Option Addr}{n1 c1:Nat}{k1:Option Addr}{m1 e1:Nat}(h1:ItV d S X x1 a1 n1 c1 k1 m1 e1){T:Nat→Prop}(hs:∀ b,S b→T b)(hT:T X.heap.size){W:World}{t:Nat}(hW:W=X.alloc (.cells #[.int .i64 x1.cls,.int .i64 x1.tag,.bool x1.cons,.slice a1 n1 c1,.slice k1 m1 e1] t)):KidsI (d+1) T W (some ⟨X.heap.size,0,none⟩) 1 [x1]:=by
 subst hW
 have hb:Below X.heap.size X (X.alloc (.cells #[.int .i64 x1.cls,.int .i64 x1.tag,.bool x1.cons,.slice a1 n1 c1,.slice k1 m1 e1] t)):=(Below.refl _ _).alloc (Nat.le_refl _) _
 have hc:=fun j=>cell_of_row _ X.heap.size j _ t (0,0) (heap_alloc_new X (.cells #[.int .i64 x1.cls,.int .i64 x1.tag,.bool x1.cons,.slice a1 n1 c1,.slice k1 m1 e1] t))
 have g1:=(h1.kept hb).mono hs
 refine ⟨rfl,by decide,fun k hk=>⟨X.heap.size,0,rfl,by simp,hT,?_⟩⟩
 rcases (show k=0 by omega) with rfl
 ·exact ⟨a1,n1,c1,k1,m1,e1,(hc 0).trans rfl,(hc 1).trans rfl,(hc 2).trans rfl,(hc 3).trans rfl,(hc 4).trans rfl,g1.row,g1.nil,g1.max,g1.kids⟩
theorem kidZ_n1 {L:Nat}{B d:Nat}{X:World}{x1:It}{a1:Option Addr}{n1 c1:Nat}{k1:Option Addr}{m1 e1:Nat}{t:Nat}(hB:B≤X.heap.size)(h1:ItZ L B d X x1 a1 n1 c1 k1 m1 e1):KidZ L B (X.alloc (.cells #[.int .i64 x1.cls,.int .i64 x1.tag,.bool x1.cons,.slice a1 n1 c1,.slice k1 m1 e1] t)) X.heap.size (d+1) [x1]:=by
 refine ⟨fun b=>(b<L∨B≤b)∧b<X.heap.size+1,kidsI_n1 (S:=fun b=>(b<L∨B≤b)∧b<X.heap.size) h1.it (fun b hb=>⟨hb.1,by have:=hb.2; omega⟩) ⟨.inr hB,by omega⟩ rfl,fun b hb=>⟨hb.1,?_⟩⟩
 have s:(X.alloc (.cells #[.int .i64 x1.cls,.int .i64 x1.tag,.bool x1.cons,.slice a1 n1 c1,.slice k1 m1 e1] t)).heap.size=X.heap.size+1:=by simp
 have:=hb.2
 omega
theorem kidZ_n3 {L:Nat}{B d:Nat}{X:World}{x1 x2 x3:It}{a1:Option Addr}{n1 c1:Nat}{k1:Option Addr}{m1 e1:Nat}{a2:Option Addr}{n2 c2:Nat}{k2:Option Addr}{m2 e2:Nat}{a3:Option Addr}{n3 c3:Nat}{k3:Option Addr}{m3 e3:Nat}{t:Nat}(hB:B≤X.heap.size)(h1:ItZ L B d X x1 a1 n1 c1 k1 m1 e1)(h2:ItZ L B d X x2 a2 n2 c2 k2 m2 e2)(h3:ItZ L B d X x3 a3 n3 c3 k3 m3 e3):KidZ L B (X.alloc (.cells #[.int .i64 x1.cls,.int .i64 x1.tag,.bool x1.cons,.slice a1 n1 c1,.slice k1 m1 e1,.int .i64 x2.cls,.int .i64 x2.tag,.bool x2.cons,.slice a2 n2 c2,.slice k2 m2 e2,.int .i64 x3.cls,.int .i64 x3.tag,.bool x3.cons,.slice a3 n3 c3,.slice k3 m3 e3] t)) X.heap.size (d+1) [x1,x2,x3]:=by
 refine ⟨fun b=>(b<L∨B≤b)∧b<X.heap.size+1,kidsI_n3 (S:=fun b=>(b<L∨B≤b)∧b<X.heap.size) h1.it h2.it h3.it (fun b hb=>⟨hb.1,by have:=hb.2; omega⟩) ⟨.inr hB,by omega⟩ rfl,fun b hb=>⟨hb.1,?_⟩⟩
 have s:(X.alloc (.cells #[.int .i64 x1.cls,.int .i64 x1.tag,.bool x1.cons,.slice a1 n1 c1,.slice k1 m1 e1,.int .i64 x2.cls,.int .i64 x2.tag,.bool x2.cons,.slice a2 n2 c2,.slice k2 m2 e2,.int .i64 x3.cls,.int .i64 x3.tag,.bool x3.cons,.slice a3 n3 c3,.slice k3 m3 e3] t)).heap.size=X.heap.size+1:=by simp
 have:=hb.2
 omega
theorem kidsI_n5 {d:Nat}{S:Nat→Prop}{X:World}{x1 x2 x3 x4 x5:It}{a1:Option Addr}{n1 c1:Nat}{k1:Option Addr}{m1 e1:Nat}{a2:Option Addr}{n2 c2:Nat}{k2:Option Addr}{m2 e2:Nat}{a3:Option Addr}{n3 c3:Nat}{k3:Option Addr}{m3 e3:Nat}{a4:Option Addr}{n4 c4:Nat}{k4:Option Addr}{m4 e4:Nat}{a5:Option Addr}{n5 c5:Nat}{k5:Option Addr}{m5 e5:Nat}(h1:ItV d S X x1 a1 n1 c1 k1 m1 e1)(h2:ItV d S X x2 a2 n2 c2 k2 m2 e2)(h3:ItV d S X x3 a3 n3 c3 k3 m3 e3)(h4:ItV d S X x4 a4 n4 c4 k4 m4 e4)(h5:ItV d S X x5 a5 n5 c5 k5 m5 e5){T:Nat→Prop}(hs:∀ b,S b→T b)(hT:T X.heap.size){W:World}{t:Nat}(hW:W=X.alloc (.cells #[.int .i64 x1.cls,.int .i64 x1.tag,.bool x1.cons,.slice a1 n1 c1,.slice k1 m1 e1,.int .i64 x2.cls,.int .i64 x2.tag,.bool x2.cons,.slice a2 n2 c2,.slice k2 m2 e2,.int .i64 x3.cls,.int .i64 x3.tag,.bool x3.cons,.slice a3 n3 c3,.slice k3 m3 e3,.int .i64 x4.cls,.int .i64 x4.tag,.bool x4.cons,.slice a4 n4 c4,.slice k4 m4 e4,.int .i64 x5.cls,.int .i64 x5.tag,.bool x5.cons,.slice a5 n5 c5,.slice k5 m5 e5] t)):KidsI (d+1) T W (some ⟨X.heap.size,0,none⟩) 5 [x1,x2,x3,x4,x5]:=by
 subst hW
 have hb:Below X.heap.size X (X.alloc (.cells #[.int .i64 x1.cls,.int .i64 x1.tag,.bool x1.cons,.slice a1 n1 c1,.slice k1 m1 e1,.int .i64 x2.cls,.int .i64 x2.tag,.bool x2.cons,.slice a2 n2 c2,.slice k2 m2 e2,.int .i64 x3.cls,.int .i64 x3.tag,.bool x3.cons,.slice a3 n3 c3,.slice k3 m3 e3,.int .i64 x4.cls,.int .i64 x4.tag,.bool x4.cons,.slice a4 n4 c4,.slice k4 m4 e4,.int .i64 x5.cls,.int .i64 x5.tag,.bool x5.cons,.slice a5 n5 c5,.slice k5 m5 e5] t)):=(Below.refl _ _).alloc (Nat.le_refl _) _
 have hc:=fun j=>cell_of_row _ X.heap.size j _ t (0,0) (heap_alloc_new X (.cells #[.int .i64 x1.cls,.int .i64 x1.tag,.bool x1.cons,.slice a1 n1 c1,.slice k1 m1 e1,.int .i64 x2.cls,.int .i64 x2.tag,.bool x2.cons,.slice a2 n2 c2,.slice k2 m2 e2,.int .i64 x3.cls,.int .i64 x3.tag,.bool x3.cons,.slice a3 n3 c3,.slice k3 m3 e3,.int .i64 x4.cls,.int .i64 x4.tag,.bool x4.cons,.slice a4 n4 c4,.slice k4 m4 e4,.int .i64 x5.cls,.int .i64 x5.tag,.bool x5.cons,.slice a5 n5 c5,.slice k5 m5 e5] t))
 have g1:=(h1.kept hb).mono hs
 have g2:=(h2.kept hb).mono hs
 have g3:=(h3.kept hb).mono hs
 have g4:=(h4.kept hb).mono hs
 have g5:=(h5.kept hb).mono hs
 refine ⟨rfl,by decide,fun k hk=>⟨X.heap.size,0,rfl,by simp,hT,?_⟩⟩
 rcases (show k=0∨k=1∨k=2∨k=3∨k=4 by omega) with rfl | rfl | rfl | rfl | rfl
 ·exact ⟨a1,n1,c1,k1,m1,e1,(hc 0).trans rfl,(hc 1).trans rfl,(hc 2).trans rfl,(hc 3).trans rfl,(hc 4).trans rfl,g1.row,g1.nil,g1.max,g1.kids⟩
 ·exact ⟨a2,n2,c2,k2,m2,e2,(hc 5).trans rfl,(hc 6).trans rfl,(hc 7).trans rfl,(hc 8).trans rfl,(hc 9).trans rfl,g2.row,g2.nil,g2.max,g2.kids⟩
 ·exact ⟨a3,n3,c3,k3,m3,e3,(hc 10).trans rfl,(hc 11).trans rfl,(hc 12).trans rfl,(hc 13).trans rfl,(hc 14).trans rfl,g3.row,g3.nil,g3.max,g3.kids⟩
 ·exact ⟨a4,n4,c4,k4,m4,e4,(hc 15).trans rfl,(hc 16).trans rfl,(hc 17).trans rfl,(hc 18).trans rfl,(hc 19).trans rfl,g4.row,g4.nil,g4.max,g4.kids⟩
 ·exact ⟨a5,n5,c5,k5,m5,e5,(hc 20).trans rfl,(hc 21).trans rfl,(hc 22).trans rfl,(hc 23).trans rfl,(hc 24).trans rfl,g5.row,g5.nil,g5.max,g5.kids⟩
theorem kidZ_n5 {L:Nat}{B d:Nat}{X:World}{x1 x2 x3 x4 x5:It}{a1:Option Addr}{n1 c1:Nat}{k1:Option Addr}{m1 e1:Nat}{a2:Option Addr}{n2 c2:Nat}{k2:Option Addr}{m2 e2:Nat}{a3:Option Addr}{n3 c3:Nat}{k3:Option Addr}{m3 e3:Nat}{a4:Option Addr}{n4 c4:Nat}{k4:Option Addr}{m4 e4:Nat}{a5:Option Addr}{n5 c5:Nat}{k5:Option Addr}{m5 e5:Nat}{t:Nat}(hB:B≤X.heap.size)(h1:ItZ L B d X x1 a1 n1 c1 k1 m1 e1)(h2:ItZ L B d X x2 a2 n2 c2 k2 m2 e2)(h3:ItZ L B d X x3 a3 n3 c3 k3 m3 e3)(h4:ItZ L B d X x4 a4 n4 c4 k4 m4 e4)(h5:ItZ L B d X x5 a5 n5 c5 k5 m5 e5):KidZ L B (X.alloc (.cells #[.int .i64 x1.cls,.int .i64 x1.tag,.bool x1.cons,.slice a1 n1 c1,.slice k1 m1 e1,.int .i64 x2.cls,.int .i64 x2.tag,.bool x2.cons,.slice a2 n2 c2,.slice k2 m2 e2,.int .i64 x3.cls,.int .i64 x3.tag,.bool x3.cons,.slice a3 n3 c3,.slice k3 m3 e3,.int .i64 x4.cls,.int .i64 x4.tag,.bool x4.cons,.slice a4 n4 c4,.slice k4 m4 e4,.int .i64 x5.cls,.int .i64 x5.tag,.bool x5.cons,.slice a5 n5 c5,.slice k5 m5 e5] t)) X.heap.size (d+1) [x1,x2,x3,x4,x5]:=by
 refine ⟨fun b=>(b<L∨B≤b)∧b<X.heap.size+1,kidsI_n5 (S:=fun b=>(b<L∨B≤b)∧b<X.heap.size) h1.it h2.it h3.it h4.it h5.it (fun b hb=>⟨hb.1,by have:=hb.2; omega⟩) ⟨.inr hB,by omega⟩ rfl,fun b hb=>⟨hb.1,?_⟩⟩
 have s:(X.alloc (.cells #[.int .i64 x1.cls,.int .i64 x1.tag,.bool x1.cons,.slice a1 n1 c1,.slice k1 m1 e1,.int .i64 x2.cls,.int .i64 x2.tag,.bool x2.cons,.slice a2 n2 c2,.slice k2 m2 e2,.int .i64 x3.cls,.int .i64 x3.tag,.bool x3.cons,.slice a3 n3 c3,.slice k3 m3 e3,.int .i64 x4.cls,.int .i64 x4.tag,.bool x4.cons,.slice a4 n4 c4,.slice k4 m4 e4,.int .i64 x5.cls,.int .i64 x5.tag,.bool x5.cons,.slice a5 n5 c5,.slice k5 m5 e5] t)).heap.size=X.heap.size+1:=by simp
 have:=hb.2
 omega
theorem kidsI_n18 {d:Nat}{S:Nat→Prop}{X:World}{x1 x2 x3 x4 x5 x6 x7 x8 x9 x10 x11 x12 x13 x14 x15 x16 x17 x18:It}{a1:Option Addr}{n1 c1:Nat}{k1:Option Addr}{m1 e1:Nat}{a2:Option Addr}{n2 c2:Nat}{k2:Option Addr}{m2 e2:Nat}{a3:Option Addr}{n3 c3:Nat}{k3:Option Addr}{m3 e3:Nat}{a4:Option Addr}{n4 c4:Nat}{k4:Option Addr}{m4 e4:Nat}{a5:Option Addr}{n5 c5:Nat}{k5:Option Addr}{m5 e5:Nat}{a6:Option Addr}{n6 c6:Nat}{k6:Option Addr}{m6 e6:Nat}{a7:Option Addr}{n7 c7:Nat}{k7:Option Addr}{m7 e7:Nat}{a8:Option Addr}{n8 c8:Nat}{k8:Option Addr}{m8 e8:Nat}{a9:Option Addr}{n9 c9:Nat}{k9:Option Addr}{m9 e9:Nat}{a10:Option Addr}{n10 c10:Nat}{k10:Option Addr}{m10 e10:Nat}{a11:Option Addr}{n11 c11:Nat}{k11:Option Addr}{m11 e11:Nat}{a12:Option Addr}{n12 c12:Nat}{k12:Option Addr}{m12 e12:Nat}{a13:Option Addr}{n13 c13:Nat}{k13:Option Addr}{m13 e13:Nat}{a14:Option Addr}{n14 c14:Nat}{k14:Option Addr}{m14 e14:Nat}{a15:Option Addr}{n15 c15:Nat}{k15:Option Addr}{m15 e15:Nat}{a16:Option Addr}{n16 c16:Nat}{k16:Option Addr}{m16 e16:Nat}{a17:Option Addr}{n17 c17:Nat}{k17:Option Addr}{m17 e17:Nat}{a18:Option Addr}{n18 c18:Nat}{k18:Option Addr}{m18 e18:Nat}(h1:ItV d S X x1 a1 n1 c1 k1 m1 e1)(h2:ItV d S X x2 a2 n2 c2 k2 m2 e2)(h3:ItV d S X x3 a3 n3 c3 k3 m3 e3)(h4:ItV d S X x4 a4 n4 c4 k4 m4 e4)(h5:ItV d S X x5 a5 n5 c5 k5 m5 e5)(h6:ItV d S X x6 a6 n6 c6 k6 m6 e6)(h7:ItV d S X x7 a7 n7 c7 k7 m7 e7)(h8:ItV d S X x8 a8 n8 c8 k8 m8 e8)(h9:ItV d S X x9 a9 n9 c9 k9 m9 e9)(h10:ItV d S X x10 a10 n10 c10 k10 m10 e10)(h11:ItV d S X x11 a11 n11 c11 k11 m11 e11)(h12:ItV d S X x12 a12 n12 c12 k12 m12 e12)(h13:ItV d S X x13 a13 n13 c13 k13 m13 e13)(h14:ItV d S X x14 a14 n14 c14 k14 m14 e14)(h15:ItV d S X x15 a15 n15 c15 k15 m15 e15)(h16:ItV d S X x16 a16 n16 c16 k16 m16 e16)(h17:ItV d S X x17 a17 n17 c17 k17 m17 e17)(h18:ItV d S X x18 a18 n18 c18 k18 m18 e18){T:Nat→Prop}(hs:∀ b,S b→T b)(hT:T X.heap.size){W:World}{t:Nat}(hW:W=X.alloc (.cells #[.int .i64 x1.cls,.int .i64 x1.tag,.bool x1.cons,.slice a1 n1 c1,.slice k1 m1 e1,.int .i64 x2.cls,.int .i64 x2.tag,.bool x2.cons,.slice a2 n2 c2,.slice k2 m2 e2,.int .i64 x3.cls,.int .i64 x3.tag,.bool x3.cons,.slice a3 n3 c3,.slice k3 m3 e3,.int .i64 x4.cls,.int .i64 x4.tag,.bool x4.cons,.slice a4 n4 c4,.slice k4 m4 e4,.int .i64 x5.cls,.int .i64 x5.tag,.bool x5.cons,.slice a5 n5 c5,.slice k5 m5 e5,.int .i64 x6.cls,.int .i64 x6.tag,.bool x6.cons,.slice a6 n6 c6,.slice k6 m6 e6,.int .i64 x7.cls,.int .i64 x7.tag,.bool x7.cons,.slice a7 n7 c7,.slice k7 m7 e7,.int .i64 x8.cls,.int .i64 x8.tag,.bool x8.cons,.slice a8 n8 c8,.slice k8 m8 e8,.int .i64 x9.cls,.int .i64 x9.tag,.bool x9.cons,.slice a9 n9 c9,.slice k9 m9 e9,.int .i64 x10.cls,.int .i64 x10.tag,.bool x10.cons,.slice a10 n10 c10,.slice k10 m10 e10,.int .i64 x11.cls,.int .i64 x11.tag,.bool x11.cons,.slice a11 n11 c11,.slice k11 m11 e11,.int .i64 x12.cls,.int .i64 x12.tag,.bool x12.cons,.slice a12 n12 c12,.slice k12 m12 e12,.int .i64 x13.cls,.int .i64 x13.tag,.bool x13.cons,.slice a13 n13 c13,.slice k13 m13 e13,.int .i64 x14.cls,.int .i64 x14.tag,.bool x14.cons,.slice a14 n14 c14,.slice k14 m14 e14,.int .i64 x15.cls,.int .i64 x15.tag,.bool x15.cons,.slice a15 n15 c15,.slice k15 m15 e15,.int .i64 x16.cls,.int .i64 x16.tag,.bool x16.cons,.slice a16 n16 c16,.slice k16 m16 e16,.int .i64 x17.cls,.int .i64 x17.tag,.bool x17.cons,.slice a17 n17 c17,.slice k17 m17 e17,.int .i64 x18.cls,.int .i64 x18.tag,.bool x18.cons,.slice a18 n18 c18,.slice k18 m18 e18] t)):KidsI (d+1) T W (some ⟨X.heap.size,0,none⟩) 18 [x1,x2,x3,x4,x5,x6,x7,x8,x9,x10,x11,x12,x13,x14,x15,x16,x17,x18]:=by
 subst hW
 have hb:Below X.heap.size X (X.alloc (.cells #[.int .i64 x1.cls,.int .i64 x1.tag,.bool x1.cons,.slice a1 n1 c1,.slice k1 m1 e1,.int .i64 x2.cls,.int .i64 x2.tag,.bool x2.cons,.slice a2 n2 c2,.slice k2 m2 e2,.int .i64 x3.cls,.int .i64 x3.tag,.bool x3.cons,.slice a3 n3 c3,.slice k3 m3 e3,.int .i64 x4.cls,.int .i64 x4.tag,.bool x4.cons,.slice a4 n4 c4,.slice k4 m4 e4,.int .i64 x5.cls,.int .i64 x5.tag,.bool x5.cons,.slice a5 n5 c5,.slice k5 m5 e5,.int .i64 x6.cls,.int .i64 x6.tag,.bool x6.cons,.slice a6 n6 c6,.slice k6 m6 e6,.int .i64 x7.cls,.int .i64 x7.tag,.bool x7.cons,.slice a7 n7 c7,.slice k7 m7 e7,.int .i64 x8.cls,.int .i64 x8.tag,.bool x8.cons,.slice a8 n8 c8,.slice k8 m8 e8,.int .i64 x9.cls,.int .i64 x9.tag,.bool x9.cons,.slice a9 n9 c9,.slice k9 m9 e9,.int .i64 x10.cls,.int .i64 x10.tag,.bool x10.cons,.slice a10 n10 c10,.slice k10 m10 e10,.int .i64 x11.cls,.int .i64 x11.tag,.bool x11.cons,.slice a11 n11 c11,.slice k11 m11 e11,.int .i64 x12.cls,.int .i64 x12.tag,.bool x12.cons,.slice a12 n12 c12,.slice k12 m12 e12,.int .i64 x13.cls,.int .i64 x13.tag,.bool x13.cons,.slice a13 n13 c13,.slice k13 m13 e13,.int .i64 x14.cls,.int .i64 x14.tag,.bool x14.cons,.slice a14 n14 c14,.slice k14 m14 e14,.int .i64 x15.cls,.int .i64 x15.tag,.bool x15.cons,.slice a15 n15 c15,.slice k15 m15 e15,.int .i64 x16.cls,.int .i64 x16.tag,.bool x16.cons,.slice a16 n16 c16,.slice k16 m16 e16,.int .i64 x17.cls,.int .i64 x17.tag,.bool x17.cons,.slice a17 n17 c17,.slice k17 m17 e17,.int .i64 x18.cls,.int .i64 x18.tag,.bool x18.cons,.slice a18 n18 c18,.slice k18 m18 e18] t)):=(Below.refl _ _).alloc (Nat.le_refl _) _
 have hc:=fun j=>cell_of_row _ X.heap.size j _ t (0,0) (heap_alloc_new X (.cells #[.int .i64 x1.cls,.int .i64 x1.tag,.bool x1.cons,.slice a1 n1 c1,.slice k1 m1 e1,.int .i64 x2.cls,.int .i64 x2.tag,.bool x2.cons,.slice a2 n2 c2,.slice k2 m2 e2,.int .i64 x3.cls,.int .i64 x3.tag,.bool x3.cons,.slice a3 n3 c3,.slice k3 m3 e3,.int .i64 x4.cls,.int .i64 x4.tag,.bool x4.cons,.slice a4 n4 c4,.slice k4 m4 e4,.int .i64 x5.cls,.int .i64 x5.tag,.bool x5.cons,.slice a5 n5 c5,.slice k5 m5 e5,.int .i64 x6.cls,.int .i64 x6.tag,.bool x6.cons,.slice a6 n6 c6,.slice k6 m6 e6,.int .i64 x7.cls,.int .i64 x7.tag,.bool x7.cons,.slice a7 n7 c7,.slice k7 m7 e7,.int .i64 x8.cls,.int .i64 x8.tag,.bool x8.cons,.slice a8 n8 c8,.slice k8 m8 e8,.int .i64 x9.cls,.int .i64 x9.tag,.bool x9.cons,.slice a9 n9 c9,.slice k9 m9 e9,.int .i64 x10.cls,.int .i64 x10.tag,.bool x10.cons,.slice a10 n10 c10,.slice k10 m10 e10,.int .i64 x11.cls,.int .i64 x11.tag,.bool x11.cons,.slice a11 n11 c11,.slice k11 m11 e11,.int .i64 x12.cls,.int .i64 x12.tag,.bool x12.cons,.slice a12 n12 c12,.slice k12 m12 e12,.int .i64 x13.cls,.int .i64 x13.tag,.bool x13.cons,.slice a13 n13 c13,.slice k13 m13 e13,.int .i64 x14.cls,.int .i64 x14.tag,.bool x14.cons,.slice a14 n14 c14,.slice k14 m14 e14,.int .i64 x15.cls,.int .i64 x15.tag,.bool x15.cons,.slice a15 n15 c15,.slice k15 m15 e15,.int .i64 x16.cls,.int .i64 x16.tag,.bool x16.cons,.slice a16 n16 c16,.slice k16 m16 e16,.int .i64 x17.cls,.int .i64 x17.tag,.bool x17.cons,.slice a17 n17 c17,.slice k17 m17 e17,.int .i64 x18.cls,.int .i64 x18.tag,.bool x18.cons,.slice a18 n18 c18,.slice k18 m18 e18] t))
 have g1:=(h1.kept hb).mono hs
 have g2:=(h2.kept hb).mono hs
 have g3:=(h3.kept hb).mono hs
 have g4:=(h4.kept hb).mono hs
 have g5:=(h5.kept hb).mono hs
 have g6:=(h6.kept hb).mono hs
 have g7:=(h7.kept hb).mono hs
 have g8:=(h8.kept hb).mono hs
 have g9:=(h9.kept hb).mono hs
 have g10:=(h10.kept hb).mono hs
 have g11:=(h11.kept hb).mono hs
 have g12:=(h12.kept hb).mono hs
 have g13:=(h13.kept hb).mono hs
 have g14:=(h14.kept hb).mono hs
 have g15:=(h15.kept hb).mono hs
 have g16:=(h16.kept hb).mono hs
 have g17:=(h17.kept hb).mono hs
 have g18:=(h18.kept hb).mono hs
 refine ⟨rfl,by decide,fun k hk=>⟨X.heap.size,0,rfl,by simp,hT,?_⟩⟩
 rcases (show k=0∨k=1∨k=2∨k=3∨k=4∨k=5∨k=6∨k=7∨k=8∨k=9∨k=10∨k=11∨k=12∨k=13∨k=14∨k=15∨k=16∨k=17 by omega) with rfl | rfl | rfl | rfl | rfl | rfl | rfl | rfl | rfl | rfl | rfl | rfl | rfl | rfl | rfl | rfl | rfl | rfl
 ·exact ⟨a1,n1,c1,k1,m1,e1,(hc 0).trans rfl,(hc 1).trans rfl,(hc 2).trans rfl,(hc 3).trans rfl,(hc 4).trans rfl,g1.row,g1.nil,g1.max,g1.kids⟩
 ·exact ⟨a2,n2,c2,k2,m2,e2,(hc 5).trans rfl,(hc 6).trans rfl,(hc 7).trans rfl,(hc 8).trans rfl,(hc 9).trans rfl,g2.row,g2.nil,g2.max,g2.kids⟩
 ·exact ⟨a3,n3,c3,k3,m3,e3,(hc 10).trans rfl,(hc 11).trans rfl,(hc 12).trans rfl,(hc 13).trans rfl,(hc 14).trans rfl,g3.row,g3.nil,g3.max,g3.kids⟩
 ·exact ⟨a4,n4,c4,k4,m4,e4,(hc 15).trans rfl,(hc 16).trans rfl,(hc 17).trans rfl,(hc 18).trans rfl,(hc 19).trans rfl,g4.row,g4.nil,g4.max,g4.kids⟩
 ·exact ⟨a5,n5,c5,k5,m5,e5,(hc 20).trans rfl,(hc 21).trans rfl,(hc 22).trans rfl,(hc 23).trans rfl,(hc 24).trans rfl,g5.row,g5.nil,g5.max,g5.kids⟩
 ·exact ⟨a6,n6,c6,k6,m6,e6,(hc 25).trans rfl,(hc 26).trans rfl,(hc 27).trans rfl,(hc 28).trans rfl,(hc 29).trans rfl,g6.row,g6.nil,g6.max,g6.kids⟩
 ·exact ⟨a7,n7,c7,k7,m7,e7,(hc 30).trans rfl,(hc 31).trans rfl,(hc 32).trans rfl,(hc 33).trans rfl,(hc 34).trans rfl,g7.row,g7.nil,g7.max,g7.kids⟩
 ·exact ⟨a8,n8,c8,k8,m8,e8,(hc 35).trans rfl,(hc 36).trans rfl,(hc 37).trans rfl,(hc 38).trans rfl,(hc 39).trans rfl,g8.row,g8.nil,g8.max,g8.kids⟩
 ·exact ⟨a9,n9,c9,k9,m9,e9,(hc 40).trans rfl,(hc 41).trans rfl,(hc 42).trans rfl,(hc 43).trans rfl,(hc 44).trans rfl,g9.row,g9.nil,g9.max,g9.kids⟩
 ·exact ⟨a10,n10,c10,k10,m10,e10,(hc 45).trans rfl,(hc 46).trans rfl,(hc 47).trans rfl,(hc 48).trans rfl,(hc 49).trans rfl,g10.row,g10.nil,g10.max,g10.kids⟩
 ·exact ⟨a11,n11,c11,k11,m11,e11,(hc 50).trans rfl,(hc 51).trans rfl,(hc 52).trans rfl,(hc 53).trans rfl,(hc 54).trans rfl,g11.row,g11.nil,g11.max,g11.kids⟩
 ·exact ⟨a12,n12,c12,k12,m12,e12,(hc 55).trans rfl,(hc 56).trans rfl,(hc 57).trans rfl,(hc 58).trans rfl,(hc 59).trans rfl,g12.row,g12.nil,g12.max,g12.kids⟩
 ·exact ⟨a13,n13,c13,k13,m13,e13,(hc 60).trans rfl,(hc 61).trans rfl,(hc 62).trans rfl,(hc 63).trans rfl,(hc 64).trans rfl,g13.row,g13.nil,g13.max,g13.kids⟩
 ·exact ⟨a14,n14,c14,k14,m14,e14,(hc 65).trans rfl,(hc 66).trans rfl,(hc 67).trans rfl,(hc 68).trans rfl,(hc 69).trans rfl,g14.row,g14.nil,g14.max,g14.kids⟩
 ·exact ⟨a15,n15,c15,k15,m15,e15,(hc 70).trans rfl,(hc 71).trans rfl,(hc 72).trans rfl,(hc 73).trans rfl,(hc 74).trans rfl,g15.row,g15.nil,g15.max,g15.kids⟩
 ·exact ⟨a16,n16,c16,k16,m16,e16,(hc 75).trans rfl,(hc 76).trans rfl,(hc 77).trans rfl,(hc 78).trans rfl,(hc 79).trans rfl,g16.row,g16.nil,g16.max,g16.kids⟩
 ·exact ⟨a17,n17,c17,k17,m17,e17,(hc 80).trans rfl,(hc 81).trans rfl,(hc 82).trans rfl,(hc 83).trans rfl,(hc 84).trans rfl,g17.row,g17.nil,g17.max,g17.kids⟩
 ·exact ⟨a18,n18,c18,k18,m18,e18,(hc 85).trans rfl,(hc 86).trans rfl,(hc 87).trans rfl,(hc 88).trans rfl,(hc 89).trans rfl,g18.row,g18.nil,g18.max,g18.kids⟩
theorem kidZ_n18 {L:Nat}{B d:Nat}{X:World}{x1 x2 x3 x4 x5 x6 x7 x8 x9 x10 x11 x12 x13 x14 x15 x16 x17 x18:It}{a1:Option Addr}{n1 c1:Nat}{k1:Option Addr}{m1 e1:Nat}{a2:Option Addr}{n2 c2:Nat}{k2:Option Addr}{m2 e2:Nat}{a3:Option Addr}{n3 c3:Nat}{k3:Option Addr}{m3 e3:Nat}{a4:Option Addr}{n4 c4:Nat}{k4:Option Addr}{m4 e4:Nat}{a5:Option Addr}{n5 c5:Nat}{k5:Option Addr}{m5 e5:Nat}{a6:Option Addr}{n6 c6:Nat}{k6:Option Addr}{m6 e6:Nat}{a7:Option Addr}{n7 c7:Nat}{k7:Option Addr}{m7 e7:Nat}{a8:Option Addr}{n8 c8:Nat}{k8:Option Addr}{m8 e8:Nat}{a9:Option Addr}{n9 c9:Nat}{k9:Option Addr}{m9 e9:Nat}{a10:Option Addr}{n10 c10:Nat}{k10:Option Addr}{m10 e10:Nat}{a11:Option Addr}{n11 c11:Nat}{k11:Option Addr}{m11 e11:Nat}{a12:Option Addr}{n12 c12:Nat}{k12:Option Addr}{m12 e12:Nat}{a13:Option Addr}{n13 c13:Nat}{k13:Option Addr}{m13 e13:Nat}{a14:Option Addr}{n14 c14:Nat}{k14:Option Addr}{m14 e14:Nat}{a15:Option Addr}{n15 c15:Nat}{k15:Option Addr}{m15 e15:Nat}{a16:Option Addr}{n16 c16:Nat}{k16:Option Addr}{m16 e16:Nat}{a17:Option Addr}{n17 c17:Nat}{k17:Option Addr}{m17 e17:Nat}{a18:Option Addr}{n18 c18:Nat}{k18:Option Addr}{m18 e18:Nat}{t:Nat}(hB:B≤X.heap.size)(h1:ItZ L B d X x1 a1 n1 c1 k1 m1 e1)(h2:ItZ L B d X x2 a2 n2 c2 k2 m2 e2)(h3:ItZ L B d X x3 a3 n3 c3 k3 m3 e3)(h4:ItZ L B d X x4 a4 n4 c4 k4 m4 e4)(h5:ItZ L B d X x5 a5 n5 c5 k5 m5 e5)(h6:ItZ L B d X x6 a6 n6 c6 k6 m6 e6)(h7:ItZ L B d X x7 a7 n7 c7 k7 m7 e7)(h8:ItZ L B d X x8 a8 n8 c8 k8 m8 e8)(h9:ItZ L B d X x9 a9 n9 c9 k9 m9 e9)(h10:ItZ L B d X x10 a10 n10 c10 k10 m10 e10)(h11:ItZ L B d X x11 a11 n11 c11 k11 m11 e11)(h12:ItZ L B d X x12 a12 n12 c12 k12 m12 e12)(h13:ItZ L B d X x13 a13 n13 c13 k13 m13 e13)(h14:ItZ L B d X x14 a14 n14 c14 k14 m14 e14)(h15:ItZ L B d X x15 a15 n15 c15 k15 m15 e15)(h16:ItZ L B d X x16 a16 n16 c16 k16 m16 e16)(h17:ItZ L B d X x17 a17 n17 c17 k17 m17 e17)(h18:ItZ L B d X x18 a18 n18 c18 k18 m18 e18):KidZ L B (X.alloc (.cells #[.int .i64 x1.cls,.int .i64 x1.tag,.bool x1.cons,.slice a1 n1 c1,.slice k1 m1 e1,.int .i64 x2.cls,.int .i64 x2.tag,.bool x2.cons,.slice a2 n2 c2,.slice k2 m2 e2,.int .i64 x3.cls,.int .i64 x3.tag,.bool x3.cons,.slice a3 n3 c3,.slice k3 m3 e3,.int .i64 x4.cls,.int .i64 x4.tag,.bool x4.cons,.slice a4 n4 c4,.slice k4 m4 e4,.int .i64 x5.cls,.int .i64 x5.tag,.bool x5.cons,.slice a5 n5 c5,.slice k5 m5 e5,.int .i64 x6.cls,.int .i64 x6.tag,.bool x6.cons,.slice a6 n6 c6,.slice k6 m6 e6,.int .i64 x7.cls,.int .i64 x7.tag,.bool x7.cons,.slice a7 n7 c7,.slice k7 m7 e7,.int .i64 x8.cls,.int .i64 x8.tag,.bool x8.cons,.slice a8 n8 c8,.slice k8 m8 e8,.int .i64 x9.cls,.int .i64 x9.tag,.bool x9.cons,.slice a9 n9 c9,.slice k9 m9 e9,.int .i64 x10.cls,.int .i64 x10.tag,.bool x10.cons,.slice a10 n10 c10,.slice k10 m10 e10,.int .i64 x11.cls,.int .i64 x11.tag,.bool x11.cons,.slice a11 n11 c11,.slice k11 m11 e11,.int .i64 x12.cls,.int .i64 x12.tag,.bool x12.cons,.slice a12 n12 c12,.slice k12 m12 e12,.int .i64 x13.cls,.int .i64 x13.tag,.bool x13.cons,.slice a13 n13 c13,.slice k13 m13 e13,.int .i64 x14.cls,.int .i64 x14.tag,.bool x14.cons,.slice a14 n14 c14,.slice k14 m14 e14,.int .i64 x15.cls,.int .i64 x15.tag,.bool x15.cons,.slice a15 n15 c15,.slice k15 m15 e15,.int .i64 x16.cls,.int .i64 x16.tag,.bool x16.cons,.slice a16 n16 c16,.slice k16 m16 e16,.int .i64 x17.cls,.int .i64 x17.tag,.bool x17.cons,.slice a17 n17 c17,.slice k17 m17 e17,.int .i64 x18.cls,.int .i64 x18.tag,.bool x18.cons,.slice a18 n18 c18,.slice k18 m18 e18] t)) X.heap.size (d+1) [x1,x2,x3,x4,x5,x6,x7,x8,x9,x10,x11,x12,x13,x14,x15,x16,x17,x18]:=by
 refine ⟨fun b=>(b<L∨B≤b)∧b<X.heap.size+1,kidsI_n18 (S:=fun b=>(b<L∨B≤b)∧b<X.heap.size) h1.it h2.it h3.it h4.it h5.it h6.it h7.it h8.it h9.it h10.it h11.it h12.it h13.it h14.it h15.it h16.it h17.it h18.it (fun b hb=>⟨hb.1,by have:=hb.2; omega⟩) ⟨.inr hB,by omega⟩ rfl,fun b hb=>⟨hb.1,?_⟩⟩
 have s:(X.alloc (.cells #[.int .i64 x1.cls,.int .i64 x1.tag,.bool x1.cons,.slice a1 n1 c1,.slice k1 m1 e1,.int .i64 x2.cls,.int .i64 x2.tag,.bool x2.cons,.slice a2 n2 c2,.slice k2 m2 e2,.int .i64 x3.cls,.int .i64 x3.tag,.bool x3.cons,.slice a3 n3 c3,.slice k3 m3 e3,.int .i64 x4.cls,.int .i64 x4.tag,.bool x4.cons,.slice a4 n4 c4,.slice k4 m4 e4,.int .i64 x5.cls,.int .i64 x5.tag,.bool x5.cons,.slice a5 n5 c5,.slice k5 m5 e5,.int .i64 x6.cls,.int .i64 x6.tag,.bool x6.cons,.slice a6 n6 c6,.slice k6 m6 e6,.int .i64 x7.cls,.int .i64 x7.tag,.bool x7.cons,.slice a7 n7 c7,.slice k7 m7 e7,.int .i64 x8.cls,.int .i64 x8.tag,.bool x8.cons,.slice a8 n8 c8,.slice k8 m8 e8,.int .i64 x9.cls,.int .i64 x9.tag,.bool x9.cons,.slice a9 n9 c9,.slice k9 m9 e9,.int .i64 x10.cls,.int .i64 x10.tag,.bool x10.cons,.slice a10 n10 c10,.slice k10 m10 e10,.int .i64 x11.cls,.int .i64 x11.tag,.bool x11.cons,.slice a11 n11 c11,.slice k11 m11 e11,.int .i64 x12.cls,.int .i64 x12.tag,.bool x12.cons,.slice a12 n12 c12,.slice k12 m12 e12,.int .i64 x13.cls,.int .i64 x13.tag,.bool x13.cons,.slice a13 n13 c13,.slice k13 m13 e13,.int .i64 x14.cls,.int .i64 x14.tag,.bool x14.cons,.slice a14 n14 c14,.slice k14 m14 e14,.int .i64 x15.cls,.int .i64 x15.tag,.bool x15.cons,.slice a15 n15 c15,.slice k15 m15 e15,.int .i64 x16.cls,.int .i64 x16.tag,.bool x16.cons,.slice a16 n16 c16,.slice k16 m16 e16,.int .i64 x17.cls,.int .i64 x17.tag,.bool x17.cons,.slice a17 n17 c17,.slice k17 m17 e17,.int .i64 x18.cls,.int .i64 x18.tag,.bool x18.cons,.slice a18 n18 c18,.slice k18 m18 e18] t)).heap.size=X.heap.size+1:=by simp
 have:=hb.2
 omega
def flgI (b:Bool):It:=.mk 0 1 false [if b then 255 else 0] []
def parI (x:PT):It:=strI [numI x.attr,bytI (bytesOf x.val)]
def namI (xs:List PT):It:=strI [lstI (xs.map parI)]
def gneI (x:GE):It:=strI [numI x.g.kind,bytI (bytesOf x.g.text),numI x.g.addr,numI x.g.bits,namI x.parts]
def kyI (p:Int × Int × Int):It:=strI [numI p.1,bytI (eightI p.2.1),numI p.2.2]
def mapI (p:Int × Int):It:=strI [numI p.1,numI p.2]
def exI (x:XP):It:=strI [numI x.id,flgI x.crit,bytI x.val]
def ceK (x:CE):List It:=[numI x.ser,namI x.iss,namI x.sub,numI x.frm,numI x.til,kyI x.key,flgI x.ca,numI x.room,numI x.uses,lstI (x.nms.map gneI),lstI (x.per.map gneI),lstI (x.den.map gneI),lstI (x.pol.map numI),lstI (x.maps.map mapI),numI x.need,numI x.nomap,numI x.noany,lstI (x.ext.map exI)]
theorem numberItem_R (n:Int)(L:Nat)(w:World)(h:W64 n) :
  Calls Tryz.prog 101 #[.int .i64 n] w fun e w'=>ItR L w.heap.size 1 (numI n) e w'∧Below w.heap.size w w':=by
 refine (numberItem_agg n w h.1 h.2).mono ?_
 rintro e w1 ⟨g,k,rfl,hge,hr,hb⟩
 exact ⟨⟨_,_,_,_,_,_,rfl,rowZ hr hge 2 (by have:=wsz_bd n; omega)⟩,hb⟩
theorem digestItem_R (v:Int)(L:Nat)(w:World)(h:U64 v) :
  Calls Tryz.prog 155 #[.int .u64 v] w fun e w'=>ItR L w.heap.size 1 (bytI (eightI v)) e w'∧Below w.heap.size w w':=by
 refine (digestItem_agg v w h.1 h.2).mono ?_
 rintro e w1 ⟨g,rfl,hge,hr,hb⟩
 exact ⟨⟨_,_,_,_,_,_,rfl,rowZ hr hge 4 (by decide)⟩,hb⟩
theorem bytesItem_aggC (a:Option Addr)(n c:Nat)(bs:List Int)(w:World) :
  Calls Tryz.prog 60 #[.slice a n c] w fun e w'=>e=.returned (.agg #[.int .i64 0,.int .i64 4,.bool false,.slice a n c,.slice none 0 0])∧Below w.heap.size w w':=bytesItem_any a n c bs w
theorem bytesItem_R (a:Option Addr)(n c:Nat)(bs:List Int)(L:Nat)(w:World)(h:Row w a n bs)(hL:∀ x,a=some x→0<n→x.block<L)(hnil:a=none→c=0)(hn:n≤9223372036854775807) :
  Calls Tryz.prog 60 #[.slice a n c] w fun e w'=>ItR L w.heap.size 1 (bytI bs) e w'∧Below w.heap.size w w':=by
 refine (bytesItem_aggC a n c bs w).mono ?_
 rintro e w1 ⟨rfl,hb⟩
 exact ⟨⟨_,_,_,_,_,_,rfl,row_itz (h.kept hb) hL hnil 4 hn⟩,hb⟩
theorem ItZ.put {L d:Nat}{w w2:World}{x:It}{ab:Option Addr}{nb cb:Nat}{ak:Option Addr}{nk ck:Nat}{B:Nat}(hZ:ItZ L B d w2 x ab nb cb ak nk ck)(hL:L≤w.heap.size)(hB:w.heap.size<B)(u0 u1 u2 u3 u4:Value):ItZ L w.heap.size d (put5I w2 w.heap.size u0 u1 u2 u3 u4) x ab nb cb ak nk ck:=(hZ.touched (put5_touch w2 w.heap.size u0 u1 u2 u3 u4) ⟨hL,hB⟩).mono (Nat.le_of_lt hB)
theorem textItem_R (s:ByteArray)(L:Nat)(w:World)(hs:s.size≤9223372036854775807)(hL:L≤w.heap.size) :
  Calls Tryz.prog 158 #[.string s] w fun e w'=>ItR L w.heap.size 1 (bytI (bytesOf s)) e w'∧Below w.heap.size w w':=by
 have hbx:=box5_below w
 have hsz:=box5_size w
 have HB5:Hid (_=_):=box5_new w
 obtain ⟨cp,W2,hcv,hrow,hb3⟩:=conv_str (w.alloc (.cells #[.int .i64 0,.int .i64 0,.bool false,.slice none 0 0,.slice none 0 0] 75)) s
 have hb3':Below (box5 w).heap.size (box5 w) W2:=hb3
 have HR:Hid (Row W2 (some ⟨w.heap.size+1,0,none⟩) s.size (bytesOf s)):=by
  have h9:Row W2 (some ⟨(box5 w).heap.size,0,none⟩) s.size (bytesOf s):=hrow
  rw [hsz] at h9
  exact h9
 clear hrow hb3
 go_enter Tryz.func158,Tryz.ntmps158
 go_wp2_with fail
 refine (bytesItem_aggC (some ⟨w.heap.size+1,0,none⟩) s.size cp (bytesOf s) W2).mono ?_
 rintro e w2 ⟨rfl,hb2⟩
 have hb23:Below (box5 w).heap.size (box5 w) w2:=keepT hb3' hb2
 have HR2:Hid (Row w2 (some ⟨w.heap.size+1,0,none⟩) s.size (bytesOf s)):=HR.out.kept hb2
 have h5:=below_kept HB5.out hb23
 obtain ⟨_,q0,q1,q2,q3,q4,q5,q6,q7,q8,q9⟩:=Box5.of h5
 have H5:Hid (_=_):=h5
 have B2:Below w.heap.size w w2:=keepT hbx hb23
 clear h5 hb2 hb23 hcv hb3'
 go_wp2_with fail
 try simp only [Exit.inBlock,Exit.then]
 have T:=put5_touch w2 w.heap.size (.int .i64 0) (.int .i64 4) (.bool false) (.slice (some ⟨w.heap.size+1,0,none⟩) s.size cp) (.slice none 0 0)
 have hZ:ItZ L (w.heap.size+1) 1 w2 (bytI (bytesOf s)) (some ⟨w.heap.size+1,0,none⟩) s.size cp none 0 0:=rowZ HR2.out (Nat.le_refl _) 4 hs
 exact bodyPost_ret (results_it rfl _ w.heap.size rfl _ _ _ _ _ _ (put5_heap H5.out _ _ _ _ _)) rfl ⟨⟨_,_,_,_,_,_,rfl,hZ.put hL (by omega) _ _ _ _ _⟩,B2.trans (T.below (Nat.le_refl _) B2.size)⟩
theorem boolTag_R (w:World):Calls Tryz.prog 184 #[.agg #[]] w fun e w'=>e=.returned (.int .i64 1)∧Below w.heap.size w w':=by
 go_enter Tryz.func184,Tryz.ntmps184
 go_wp2
 go_ret
 exact ⟨rfl,(Below.refl _ _).alloc (Nat.le_refl _) _⟩
theorem boolItem_0 (w:World)(L:Nat)(hL:L≤w.heap.size):Calls Tryz.prog 156 #[.agg #[],.agg #[.bool false,.int .i64 0,.slice none 0 0,.slice none 0 0,.slice none 0 0]] w fun e w'=>ItR L w.heap.size 1 (flgI false) e w'∧Below w.heap.size w w':=by
 obtain ⟨wa,hwa⟩:∃ wa,wa=(w.alloc (.cells #[] 188)).alloc (.cells #[.bool false,.int .i64 0,.slice none 0 0,.slice none 0 0,.slice none 0 0] 193):=⟨_,rfl⟩
 have hbA:Below w.heap.size w wa:=by rw [hwa]; exact ((Below.refl _ _).alloc (Nat.le_refl _) _).alloc (by simp) _
 have hsA:wa.heap.size=w.heap.size+1+1:=by rw [hwa]; simp
 obtain ⟨w1,hw1⟩:∃ w1,w1=box5 wa:=⟨_,rfl⟩
 have hbb:Below w.heap.size w w1:=by rw [hw1]; exact keepT hbA (box5_below wa)
 have hsz:w1.heap.size=w.heap.size+3:=by rw [hw1,box5_size,hsA]
 have HB:Hid (w1.heap[w.heap.size+1+1]? = some (.cells #[.int .i64 0,.int .i64 0,.bool false,.slice none 0 0,.slice none 0 0] 75 (0,0))):=by show _=_; rw [← hsA,hw1]; exact box5_new wa
 have HW:Hid (w1=((w.alloc (.cells #[] 188)).alloc (.cells #[.bool false,.int .i64 0,.slice none 0 0,.slice none 0 0,.slice none 0 0] 193)).alloc (.cells #[.int .i64 0,.int .i64 0,.bool false,.slice none 0 0,.slice none 0 0] 75)):=by show _=_; rw [hw1,hwa]; rfl
 clear hw1 hwa hbA hsA
 go_enter Tryz.func156,Tryz.ntmps156
 go_wp2_with fail
 rw [← HW.out]
 clear HW
 refine (boolTag_R w1).mono ?_
 rintro e w2 ⟨rfl,hb2⟩
 have hal:Below w2.heap.size w2 (w2.alloc (.cells #[.int .u8 0] 5)):=(Below.refl _ _).alloc (Nat.le_refl _) _
 have h5:=below_kept (below_kept HB.out hb2) hal
 obtain ⟨_,q0,q1,q2,q3,q4,q5,q6,q7,q8,q9⟩:=Box5.of h5
 have H5:Hid (_=_):=h5
 have B2:Below w.heap.size w (w2.alloc (.cells #[.int .u8 0] 5)):=keepT (keepT hbb hb2) hal
 have hs2:=hb2.size
 have HN:Hid ((w2.alloc (.cells #[.int .u8 0] 5)).heap[w2.heap.size]? = some (.cells #[.int .u8 0] 5 (0,0))):=heap_alloc_new w2 _
 clear h5 hb2 hal
 go_wp2_with fail
 try simp only [Exit.inBlock,Exit.then]
 have T:=put5_touch (w2.alloc (.cells #[.int .u8 0] 5)) (w.heap.size+1+1) (.int .i64 0) (.int .i64 1) (.bool false) (.slice (some ⟨w2.heap.size,0,none⟩) 1 1) (.slice none 0 0)
 have hR:Row (w2.alloc (.cells #[.int .u8 0] 5)) (some ⟨w2.heap.size,0,none⟩) 1 [0]:=by
  refine ⟨rfl,fun k hk=>⟨w2.heap.size,0,rfl,by simp,?_⟩,fun k=>?_⟩
  ·obtain rfl:k=0:=by omega
   exact (cell_of_row _ _ 0 _ 5 (0,0) HN.out).trans rfl
  ·match k with
   | 0=>decide
   | k+1=>simp
 have hZ:ItZ L (w.heap.size+3) 1 (w2.alloc (.cells #[.int .u8 0] 5)) (flgI false) (some ⟨w2.heap.size,0,none⟩) 1 1 none 0 0:=rowZ hR (by omega) 1 (by decide)
 exact bodyPost_ret (results_it rfl _ (w.heap.size+1+1) rfl _ _ _ _ _ _ (put5_heap H5.out _ _ _ _ _)) rfl ⟨⟨_,_,_,_,_,_,rfl,(hZ.touched T ⟨by omega,by omega⟩).mono (by omega)⟩,B2.trans (T.below (by omega) (by have:=B2.size; omega))⟩
theorem boolItem_1 (w:World)(L:Nat)(hL:L≤w.heap.size):Calls Tryz.prog 156 #[.agg #[],.agg #[.bool false,.int .i64 1,.slice none 0 0,.slice none 0 0,.slice none 0 0]] w fun e w'=>ItR L w.heap.size 1 (flgI true) e w'∧Below w.heap.size w w':=by
 obtain ⟨wa,hwa⟩:∃ wa,wa=(w.alloc (.cells #[] 188)).alloc (.cells #[.bool false,.int .i64 1,.slice none 0 0,.slice none 0 0,.slice none 0 0] 193):=⟨_,rfl⟩
 have hbA:Below w.heap.size w wa:=by rw [hwa]; exact ((Below.refl _ _).alloc (Nat.le_refl _) _).alloc (by simp) _
 have hsA:wa.heap.size=w.heap.size+1+1:=by rw [hwa]; simp
 obtain ⟨w1,hw1⟩:∃ w1,w1=box5 wa:=⟨_,rfl⟩
 have hbb:Below w.heap.size w w1:=by rw [hw1]; exact keepT hbA (box5_below wa)
 have hsz:w1.heap.size=w.heap.size+3:=by rw [hw1,box5_size,hsA]
 have HB:Hid (w1.heap[w.heap.size+1+1]? = some (.cells #[.int .i64 0,.int .i64 0,.bool false,.slice none 0 0,.slice none 0 0] 75 (0,0))):=by show _=_; rw [← hsA,hw1]; exact box5_new wa
 have HW:Hid (w1=((w.alloc (.cells #[] 188)).alloc (.cells #[.bool false,.int .i64 1,.slice none 0 0,.slice none 0 0,.slice none 0 0] 193)).alloc (.cells #[.int .i64 0,.int .i64 0,.bool false,.slice none 0 0,.slice none 0 0] 75)):=by show _=_; rw [hw1,hwa]; rfl
 clear hw1 hwa hbA hsA
 go_enter Tryz.func156,Tryz.ntmps156
 go_wp2_with fail
 rw [← HW.out]
 clear HW
 refine (boolTag_R w1).mono ?_
 rintro e w2 ⟨rfl,hb2⟩
 have hal:Below w2.heap.size w2 (w2.alloc (.cells #[.int .u8 255] 5)):=(Below.refl _ _).alloc (Nat.le_refl _) _
 have h5:=below_kept (below_kept HB.out hb2) hal
 obtain ⟨_,q0,q1,q2,q3,q4,q5,q6,q7,q8,q9⟩:=Box5.of h5
 have H5:Hid (_=_):=h5
 have B2:Below w.heap.size w (w2.alloc (.cells #[.int .u8 255] 5)):=keepT (keepT hbb hb2) hal
 have hs2:=hb2.size
 have HN:Hid ((w2.alloc (.cells #[.int .u8 255] 5)).heap[w2.heap.size]? = some (.cells #[.int .u8 255] 5 (0,0))):=heap_alloc_new w2 _
 clear h5 hb2 hal
 go_wp2_with fail
 try simp only [Exit.inBlock,Exit.then]
 have T:=put5_touch (w2.alloc (.cells #[.int .u8 255] 5)) (w.heap.size+1+1) (.int .i64 0) (.int .i64 1) (.bool false) (.slice (some ⟨w2.heap.size,0,none⟩) 1 1) (.slice none 0 0)
 have hR:Row (w2.alloc (.cells #[.int .u8 255] 5)) (some ⟨w2.heap.size,0,none⟩) 1 [255]:=by
  refine ⟨rfl,fun k hk=>⟨w2.heap.size,0,rfl,by simp,?_⟩,fun k=>?_⟩
  ·obtain rfl:k=0:=by omega
   exact (cell_of_row _ _ 0 _ 5 (0,0) HN.out).trans rfl
  ·match k with
   | 0=>decide
   | k+1=>simp
 have hZ:ItZ L (w.heap.size+3) 1 (w2.alloc (.cells #[.int .u8 255] 5)) (flgI true) (some ⟨w2.heap.size,0,none⟩) 1 1 none 0 0:=rowZ hR (by omega) 1 (by decide)
 exact bodyPost_ret (results_it rfl _ (w.heap.size+1+1) rfl _ _ _ _ _ _ (put5_heap H5.out _ _ _ _ _)) rfl ⟨⟨_,_,_,_,_,_,rfl,(hZ.touched T ⟨by omega,by omega⟩).mono (by omega)⟩,B2.trans (T.below (by omega) (by have:=B2.size; omega))⟩
theorem flagItem_R (b:Bool)(w:World)(L:Nat)(hL:L≤w.heap.size):Calls Tryz.prog 104 #[.bool b] w fun e w'=>ItR L w.heap.size 1 (flgI b) e w'∧Below w.heap.size w w':=by
 have hbx:=box5_below w
 have hsz:=box5_size w
 have HB5:Hid (_=_):=box5_new w
 cases b
 ·go_enter Tryz.func104,Tryz.ntmps104
  go_wp2_with fail
  refine (boolItem_0 (box5 w) L (by omega)).mono ?_
  rintro e w2 ⟨⟨ab,nb,cb,ak,nk,ck,rfl,hit⟩,hb2⟩
  have HIT:Hid (_):=hit
  have h5:=below_kept HB5.out hb2
  obtain ⟨_,q0,q1,q2,q3,q4,q5,q6,q7,q8,q9⟩:=Box5.of h5
  have H5:Hid (_=_):=h5
  have B2:Below w.heap.size w w2:=keepT hbx hb2
  clear h5 hb2 hit
  go_wp2_with fail
  try simp only [Exit.inBlock,Exit.then]
  have T:=put5_touch w2 w.heap.size (.int .i64 (flgI false).cls) (.int .i64 (flgI false).tag) (.bool (flgI false).cons) (.slice ab nb cb) (.slice ak nk ck)
  exact bodyPost_ret (results_it rfl _ w.heap.size rfl _ _ _ _ _ _ (put5_heap H5.out _ _ _ _ _)) rfl ⟨⟨_,_,_,_,_,_,rfl,HIT.out.put hL (by omega) _ _ _ _ _⟩,B2.trans (T.below (Nat.le_refl _) B2.size)⟩
 ·go_enter Tryz.func104,Tryz.ntmps104
  go_wp2_with fail
  refine (boolItem_1 (box5 w) L (by omega)).mono ?_
  rintro e w2 ⟨⟨ab,nb,cb,ak,nk,ck,rfl,hit⟩,hb2⟩
  have HIT:Hid (_):=hit
  have h5:=below_kept HB5.out hb2
  obtain ⟨_,q0,q1,q2,q3,q4,q5,q6,q7,q8,q9⟩:=Box5.of h5
  have H5:Hid (_=_):=h5
  have B2:Below w.heap.size w w2:=keepT hbx hb2
  clear h5 hb2 hit
  go_wp2_with fail
  try simp only [Exit.inBlock,Exit.then]
  have T:=put5_touch w2 w.heap.size (.int .i64 (flgI true).cls) (.int .i64 (flgI true).tag) (.bool (flgI true).cons) (.slice ab nb cb) (.slice ak nk ck)
  exact bodyPost_ret (results_it rfl _ w.heap.size rfl _ _ _ _ _ _ (put5_heap H5.out _ _ _ _ _)) rfl ⟨⟨_,_,_,_,_,_,rfl,HIT.out.put hL (by omega) _ _ _ _ _⟩,B2.trans (T.below (Nat.le_refl _) B2.size)⟩
theorem structItem_R {L R d n:Nat}{gr:Nat}{ks:List It}{w:World}(h:KidZ L R w gr d ks)(hn:ks.length=n) :
  Calls Tryz.prog 152 #[.slice (some ⟨gr,0,none⟩) n n] w fun e w'=>ItR L R d (strI ks) e w'∧Below w.heap.size w w':=by
 subst hn
 refine (structItem_agg (some ⟨gr,0,none⟩) ks.length ks.length w).mono ?_
 rintro e w1 ⟨rfl,hb⟩
 exact ⟨⟨_,_,_,_,_,_,rfl,(h.kept hb).itz 0 16⟩,hb⟩
theorem ownItem_R {L R d n:Nat}{gr:Nat}{ks:List It}{w:World}(tag:Int)(h:KidZ L R w gr d ks)(hn:ks.length=n) :
  Calls Tryz.prog 59 #[.int .i64 tag,.slice (some ⟨gr,0,none⟩) n n] w fun e w'=>ItR L R d (boxI tag ks) e w'∧Below w.heap.size w w':=by
 subst hn
 refine (ownItem_agg tag (some ⟨gr,0,none⟩) ks.length ks.length w).mono ?_
 rintro e w1 ⟨rfl,hb⟩
 exact ⟨⟨_,_,_,_,_,_,rfl,(h.kept hb).itz 1 tag⟩,hb⟩
open Go.RowKit Go.Sort
def partitemr (y:PT)(L R G B:Nat):RSpec where
 m:=9
 n:=11
 slots:=[3,4,5,6,7,8,9,10,100008,100009,100010]
 kills:=[[],[],[],[],[],[],[],[],[],[],[8]]
 pres:=[[],[],[],[],[],[],[],[],[],[],[]]
 fact:=fun k v w=>match k with
  | 0=>v=.pointer (some ⟨G,0,none⟩)
  | 1=>v=.int .i64 y.attr
  | 2=>∃ a1 n1 c1 k1 m1 e1,v=.agg #[.int .i64 (numI y.attr).cls,.int .i64 (numI y.attr).tag,.bool (numI y.attr).cons,.slice a1 n1 c1,.slice k1 m1 e1]∧ItZ L R 1 w (numI y.attr) a1 n1 c1 k1 m1 e1∧L≤G∧G+1<R
  | 3=>v=.pointer (some ⟨G,1,none⟩)
  | 4=>v=.string y.val
  | 5=>∃ a2 n2 c2 k2 m2 e2,v=.agg #[.int .i64 (bytI (bytesOf y.val)).cls,.int .i64 (bytI (bytesOf y.val)).tag,.bool (bytI (bytesOf y.val)).cons,.slice a2 n2 c2,.slice k2 m2 e2]∧ItZ L R 1 w (bytI (bytesOf y.val)) a2 n2 c2 k2 m2 e2∧L≤G∧G+1<R
  | 6=>∃ gr,v=.slice (some ⟨gr,0,none⟩) 2 2∧KidZ L R w gr 2 [numI y.attr,bytI (bytesOf y.val)]∧L≤G∧G+1<R
  | 7=>∃ a0 n0 c0 k0 m0 e0,v=.agg #[.int .i64 (parI y).cls,.int .i64 (parI y).tag,.bool (parI y).cons,.slice a0 n0 c0,.slice k0 m0 e0]∧ItZ L R 2 w (parI y) a0 n0 c0 k0 m0 e0∧L≤G∧G+1<R
  | 8=>∃ a0 n0 c0 k0 m0 e0,w.heap[(G+1)]? = some (.cells #[.int .i64 (parI y).cls,.int .i64 (parI y).tag,.bool (parI y).cons,.slice a0 n0 c0,.slice k0 m0 e0] 75 (0,0))∧ItZ L R 2 w (parI y) a0 n0 c0 k0 m0 e0∧L≤G∧G+1<R
  | 9=>w.heap[G]? = some (.cells #[.int .i64 y.attr,.string y.val] 172 (0,0))
  | _=>w.heap[(G+1)]? = some (.cells #[.int .i64 0,.int .i64 0,.bool false,.slice none 0 0,.slice none 0 0] 75 (0,0))
theorem partitemr_stb (y:PT)(L R G B:Nat)(k:Nat)(hk:k<11):StB ((partitemr y L R G (B)).fact k):=by
 match k,hk with
 | 0,_=>exact fun _ _ _ h _=>h
 | 1,_=>exact fun _ _ _ h _=>h
 | 2,_=>exact fun _ _ _ ⟨a1,n1,c1,k1,m1,e1,hv,q_0,q_1⟩ hb=>⟨a1,n1,c1,k1,m1,e1,hv,q_0.kept hb,q_1⟩
 | 3,_=>exact fun _ _ _ h _=>h
 | 4,_=>exact fun _ _ _ h _=>h
 | 5,_=>exact fun _ _ _ ⟨a2,n2,c2,k2,m2,e2,hv,q_0,q_1⟩ hb=>⟨a2,n2,c2,k2,m2,e2,hv,q_0.kept hb,q_1⟩
 | 6,_=>exact fun _ _ _ ⟨gr,hv,q_0,q_1⟩ hb=>⟨gr,hv,q_0.kept hb,q_1⟩
 | 7,_=>exact fun _ _ _ ⟨a0,n0,c0,k0,m0,e0,hv,q_0,q_1⟩ hb=>⟨a0,n0,c0,k0,m0,e0,hv,q_0.kept hb,q_1⟩
 | 8,_=>exact fun _ _ _ ⟨a0,n0,c0,k0,m0,e0,q_0,q_1,q_2⟩ hb=>⟨a0,n0,c0,k0,m0,e0,below_kept q_0 hb,q_1.kept hb,q_2⟩
 | 9,_=>exact fun _ _ _ q_0 hb=>below_kept q_0 hb
 | 10,_=>exact fun _ _ _ q_0 hb=>below_kept q_0 hb
 | k+11,hk=>omega
theorem partitemr_st8 (y:PT)(L R G B:Nat){W W2:World}{cs:Array Value}{fr:Nat × Nat}(hg:W.heap[(G+1)]? = some (.cells cs 75 fr))(ht:Touch ((G+1)) ((G+1)+1) W W2)(k:Nat)(hk:k<11)(hne:k≠8)(hkill:8∉(partitemr y L R G (B)).kill k)(v:Value)(hfact:(partitemr y L R G (B)).fact k v W):(partitemr y L R G (B)).fact k v W2:=by
 match k,hk,hne,hkill,hfact with
 | 0,_,_,_,hq=>exact hq
 | 1,_,_,_,hq=>exact hq
 | 2,_,_,_,⟨a1,n1,c1,k1,m1,e1,hv,q_0,q_1⟩=>exact ⟨a1,n1,c1,k1,m1,e1,hv,q_0.touched ht (by omega),q_1⟩
 | 3,_,_,_,hq=>exact hq
 | 4,_,_,_,hq=>exact hq
 | 5,_,_,_,⟨a2,n2,c2,k2,m2,e2,hv,q_0,q_1⟩=>exact ⟨a2,n2,c2,k2,m2,e2,hv,q_0.touched ht (by omega),q_1⟩
 | 6,_,_,_,⟨gr,hv,q_0,q_1⟩=>exact ⟨gr,hv,q_0.touched ht (by omega),q_1⟩
 | 7,_,_,_,⟨a0,n0,c0,k0,m0,e0,hv,q_0,q_1⟩=>exact ⟨a0,n0,c0,k0,m0,e0,hv,q_0.touched ht (by omega),q_1⟩
 | 8,_,hne,_,_=>exact absurd rfl hne
 | 9,_,_,_,q_0=>exact box_box q_0 hg (by decide) ht
 | 10,_,_,hkill,_=>exact absurd (List.Mem.head _) hkill
 | k+11,hk,_,_,_=>omega
theorem partItem_R (y:PT)(L:Nat)(w:World)(hLw:L≤w.heap.size)(hy1:W64 y.attr)(hy2:y.val.size≤9223372036854775807) :
  Calls Tryz.prog 154 #[.agg #[.int .i64 y.attr,.string y.val]] w fun e w'=>ItR L w.heap.size 2 (parI y) e w'∧Below w.heap.size w w':=by
 obtain ⟨w1,hw1⟩:∃ w1,w1=(w.alloc (.cells #[.int .i64 y.attr,.string y.val] 172)).alloc (.cells #[.int .i64 0,.int .i64 0,.bool false,.slice none 0 0,.slice none 0 0] 75):=⟨_,rfl⟩
 have hbb:Below w.heap.size w w1:=by rw [hw1]; exact ((Below.refl _ _).alloc (Nat.le_refl _) _).alloc (by simp) _
 have HB1:Hid (_∧_):=two_blocks w (.cells #[.int .i64 y.attr,.string y.val] 172) (.cells #[.int .i64 0,.int .i64 0,.bool false,.slice none 0 0,.slice none 0 0] 75)
 rw [← hw1] at HB1
 have hsz:w1.heap.size=w.heap.size+2:=by rw [hw1]; simp
 have HGB:L≤w.heap.size∧w.heap.size+1<w1.heap.size:=⟨hLw,by omega⟩
 have HLB:∀ W,Below w.heap.size w1 W→L≤W.heap.size:=fun W hW=>by have:=hW.size; omega
 have HBB:w.heap.size≤w1.heap.size:=hbb.size
 have HW:Hid (_=_):=hw1
 clear hw1
 go_enter Tryz.func154,Tryz.ntmps154
 go_upto_region 1 with fail
 rw [← HW.out]
 clear HW
 refine wp_region_ri (partitemr y L w1.heap.size w.heap.size (w.heap.size)) [3,4,5,6,7,8,9,10] (w.heap.size) (fun a0=>a0.tmps.size=11∧aT a0 1=.pointer (some ⟨w.heap.size,0,none⟩)∧aT a0 2=.pointer (some ⟨(w.heap.size+1),0,none⟩)) (by kernel_rfl) rfl (by kernel_rfl) rfl ⟨rfl,rfl,rfl⟩ (partitemr_stb y L w1.heap.size w.heap.size (w.heap.size)) ?_ ?_ ?_
 ·intro k hk hk2
  match k,hk,hk2 with
  | 9,_,_=>exact HB1.out.1
  | 10,_,_=>exact HB1.out.2
  | 0,hk,_=>exact absurd hk (by show ¬ (9≤0); omega)
  | 1,hk,_=>exact absurd hk (by show ¬ (9≤1); omega)
  | 2,hk,_=>exact absurd hk (by show ¬ (9≤2); omega)
  | 3,hk,_=>exact absurd hk (by show ¬ (9≤3); omega)
  | 4,hk,_=>exact absurd hk (by show ¬ (9≤4); omega)
  | 5,hk,_=>exact absurd hk (by show ¬ (9≤5); omega)
  | 6,hk,_=>exact absurd hk (by show ¬ (9≤6); omega)
  | 7,hk,_=>exact absurd hk (by show ¬ (9≤7); omega)
  | 8,hk,_=>exact absurd hk (by show ¬ (9≤8); omega)
  | k+11,_,hk2=>exact absurd hk2 (by show ¬ (k+11<11); omega)
 ·rintro a0 ⟨hz,g1,g2⟩
  refine StepsRI.cons ?_ (StepsRI.cons ?_ (StepsRI.cons ?_ (StepsRI.cons ?_ (StepsRI.cons ?_ (StepsRI.cons ?_ (StepsRI.cons ?_ (StepsRI.cons ?_ (StepsRI.cons ?_ (StepsRI.nil)))))))))
  ·intro lQ b W hI hUN hED KQ hKQ
   exact opw_field 172 1 0 rfl _ ((hI.fr.same 1 (by decide)).trans g1) _ (by kernel_rfl) (hKQ.out _ _ (hI.put 0 3 rfl rfl (by rw [hz]; decide) rfl hUN rfl HBB (partitemr_stb y L w1.heap.size w.heap.size (w.heap.size)) (Below.refl _ _) rfl))
  ·intro lQ b W hI hUN hED KQ hKQ
   have f:=hI.got 0 (of_decide_eq_true rfl) (edge hED 0 (by kernel_rfl)) rfl
   have hg:=(hI.vot 9 (of_decide_eq_true rfl) (of_decide_eq_true rfl) rfl)
   have hc:W.cell? ⟨w.heap.size,0,none⟩=some (.int .i64 y.attr):=(cell_of_row _ _ 0 _ _ (0,0) hg).trans rfl
   exact opw_load1 2 3 rfl _ f _ (by simp [Instr.loadAt,go_sem,hc]) (hKQ.out _ _ (hI.put 1 4 rfl rfl (by rw [hz]; decide) rfl hUN rfl HBB (partitemr_stb y L w1.heap.size w.heap.size (w.heap.size)) (Below.refl _ _) rfl))
  ·intro lQ b W hI hUN hED KQ hKQ
   have f0:aT b 4=.int .i64 y.attr:=hI.got 1 (of_decide_eq_true rfl) (edge hED 1 (by kernel_rfl)) rfl
   refine opw_call 101 #[.tmp 4] _ _ _ rfl Tryz.func101 (by kernel_rfl) rfl #[.int .i64 y.attr] (by simp [ev,f0]) ?_
   refine (numberItem_R y.attr L W hy1).mono ?_
   rintro r W2 ⟨⟨a1,n1,c1,k1,m1,e1,rfl,hzI⟩,hb⟩
   exact ⟨_,rfl,hKQ.out _ _ (hI.put 2 5 rfl rfl (by rw [hz]; decide) rfl hUN rfl HBB (partitemr_stb y L w1.heap.size w.heap.size (w.heap.size)) hb ⟨a1,n1,c1,k1,m1,e1,rfl,((hzI.mono hI.bel.size).le (by decide)),HGB⟩)⟩
  ·intro lQ b W hI hUN hED KQ hKQ
   exact opw_field 172 1 1 rfl _ ((hI.fr.same 1 (by decide)).trans g1) _ (by kernel_rfl) (hKQ.out _ _ (hI.put 3 6 rfl rfl (by rw [hz]; decide) rfl hUN rfl HBB (partitemr_stb y L w1.heap.size w.heap.size (w.heap.size)) (Below.refl _ _) rfl))
  ·intro lQ b W hI hUN hED KQ hKQ
   have f:=hI.got 3 (of_decide_eq_true rfl) (edge hED 3 (by kernel_rfl)) rfl
   have hg:=(hI.vot 9 (of_decide_eq_true rfl) (of_decide_eq_true rfl) rfl)
   have hc:W.cell? ⟨w.heap.size,1,none⟩=some (.string y.val):=(cell_of_row _ _ 1 _ _ (0,0) hg).trans rfl
   exact opw_load1 9 6 rfl _ f _ (by simp [Instr.loadAt,go_sem,hc]) (hKQ.out _ _ (hI.put 4 7 rfl rfl (by rw [hz]; decide) rfl hUN rfl HBB (partitemr_stb y L w1.heap.size w.heap.size (w.heap.size)) (Below.refl _ _) rfl))
  ·intro lQ b W hI hUN hED KQ hKQ
   have f0:aT b 7=.string y.val:=hI.got 4 (of_decide_eq_true rfl) (edge hED 4 (by kernel_rfl)) rfl
   refine opw_call 158 #[.tmp 7] _ _ _ rfl Tryz.func158 (by kernel_rfl) rfl #[.string y.val] (by simp [ev,f0]) ?_
   refine (textItem_R y.val L W hy2 (HLB W hI.bel)).mono ?_
   rintro r W2 ⟨⟨a2,n2,c2,k2,m2,e2,rfl,hzI⟩,hb⟩
   exact ⟨_,rfl,hKQ.out _ _ (hI.put 5 8 rfl rfl (by rw [hz]; decide) rfl hUN rfl HBB (partitemr_stb y L w1.heap.size w.heap.size (w.heap.size)) hb ⟨a2,n2,c2,k2,m2,e2,rfl,((hzI.mono hI.bel.size).le (by decide)),HGB⟩)⟩
  ·intro lQ b W hI hUN hED KQ hKQ
   obtain ⟨a1,n1,c1,k1,m1,e1,f1,o1,_⟩:=hI.got 2 (of_decide_eq_true rfl) (edge hED 2 (by kernel_rfl)) rfl
   replace f1:aT b 5=.agg #[.int .i64 (numI y.attr).cls,.int .i64 (numI y.attr).tag,.bool (numI y.attr).cons,.slice a1 n1 c1,.slice k1 m1 e1]:=f1
   obtain ⟨a2,n2,c2,k2,m2,e2,f2,o2,_⟩:=hI.got 5 (of_decide_eq_true rfl) (edge hED 5 (by kernel_rfl)) rfl
   replace f2:aT b 8=.agg #[.int .i64 (bytI (bytesOf y.val)).cls,.int .i64 (bytI (bytesOf y.val)).tag,.bool (bytI (bytesOf y.val)).cons,.slice a2 n2 c2,.slice k2 m2 e2]:=f2
   refine opw_buildSliceT _ 2 _ rfl #[(0,.agg #[.int .i64 (numI y.attr).cls,.int .i64 (numI y.attr).tag,.bool (numI y.attr).cons,.slice a1 n1 c1,.slice k1 m1 e1]),(1,.agg #[.int .i64 (bytI (bytesOf y.val)).cls,.int .i64 (bytI (bytesOf y.val)).tag,.bool (bytI (bytesOf y.val)).cons,.slice a2 n2 c2,.slice k2 m2 e2])] (by simp [ev,f1,f2]) (.slice (some ⟨W.heap.size,0,none⟩) 2 2) (W.alloc (.cells #[.int .i64 (numI y.attr).cls,.int .i64 (numI y.attr).tag,.bool (numI y.attr).cons,.slice a1 n1 c1,.slice k1 m1 e1,.int .i64 (bytI (bytesOf y.val)).cls,.int .i64 (bytI (bytesOf y.val)).tag,.bool (bytI (bytesOf y.val)).cons,.slice a2 n2 c2,.slice k2 m2 e2] 75)) (by kernel_rfl) ?_
   exact hKQ.out _ _ (hI.put 6 9 rfl rfl (by rw [hz]; decide) rfl hUN rfl HBB (partitemr_stb y L w1.heap.size w.heap.size (w.heap.size)) ((Below.refl _ _).alloc (Nat.le_refl _) _) ⟨W.heap.size,rfl,kidZ_n2 hI.bel.size o1 o2,HGB⟩)
  ·intro lQ b W hI hUN hED KQ hKQ
   obtain ⟨gr,f0,o0,_⟩:=hI.got 6 (of_decide_eq_true rfl) (edge hED 6 (by kernel_rfl)) rfl
   replace f0:aT b 9=.slice (some ⟨gr,0,none⟩) 2 2:=f0
   refine opw_call 152 #[.tmp 9] _ _ _ rfl Tryz.func152 (by kernel_rfl) rfl #[.slice (some ⟨gr,0,none⟩) 2 2] (by simp [ev,f0]) ?_
   refine (structItem_R o0 rfl).mono ?_
   rintro r W2 ⟨⟨a0,n0,c0,k0,m0,e0,rfl,hzI⟩,hb⟩
   exact ⟨_,rfl,hKQ.out _ _ (hI.put 7 10 rfl rfl (by rw [hz]; decide) rfl hUN rfl HBB (partitemr_stb y L w1.heap.size w.heap.size (w.heap.size)) hb ⟨a0,n0,c0,k0,m0,e0,rfl,hzI,HGB⟩)⟩
  ·intro lQ b W hI hUN hED KQ hKQ
   have hgb:=(hI.vot1 10 8 (of_decide_eq_true rfl) (of_decide_eq_true rfl) hUN rfl)
   have fb:=((hI.fr.same 2 (by decide)).trans g2)
   have f:=hI.got 7 (of_decide_eq_true rfl) (edge hED 7 (by kernel_rfl)) rfl
   obtain ⟨a0,n0,c0,k0,m0,e0,f,o_0,o_1⟩:=f
   refine wp_store_row 75 _ _ rfl ((w.heap.size+1)) #[.int .i64 (parI y).cls,.int .i64 (parI y).tag,.bool (parI y).cons,.slice a0 n0 c0,.slice k0 m0 e0] fb f 75 _ hgb (by kernel_rfl) rfl (by simp [Value.oneCell']) ?_
   have ht:=setRow_touch W ((w.heap.size+1)) #[.int .i64 (parI y).cls,.int .i64 (parI y).tag,.bool (parI y).cons,.slice a0 n0 c0,.slice k0 m0 e0]
   exact hKQ.out _ _ (hI.store 8 (fun j hj=>by cases hj) (hI.bel.trans (ht.below (by first | exact HGE2 | omega) (Nat.le_trans HBB hI.bel.size))) (partitemr_st8 y L w1.heap.size w.heap.size (w.heap.size) hgb ht) ⟨a0,n0,c0,k0,m0,e0,(setRow_heap W ((w.heap.size+1)) _ _ _ _ hgb),o_0.touched ht (by omega),o_1⟩)
 ·intro b W hf hb F
  obtain ⟨a0,n0,c0,k0,m0,e0,hbx,hz,_⟩:=F 8 (of_decide_eq_true rfl) rfl
  rw [hf.eq]
  simp only [puts,Act.put,List.setIfInBounds_toArray,List.set_cons_zero,List.set_cons_succ]
  clear hf F
  generalize aT b=AT
  clear b
  go_wp2
  try simp only [Exit.inBlock,Exit.then]
  exact bodyPost_ret (results_it rfl _ (w.heap.size+1) rfl _ _ _ _ _ _ hbx) rfl ⟨⟨a0,n0,c0,k0,m0,e0,rfl,hz.mono hbb.size⟩,hbb.trans hb⟩
theorem Par_next (xs:List PT)(k:Nat)(h:k<xs.length):(xs.take (k+1)).map parI=(xs.take k).map parI++[parI (xs.getD k default)]:=by
 rw [List.take_add_one,List.map_append]
 simp [h]
theorem eachPar_R (a:Option Addr)(n c:Nat)(xs:List PT)(L:Nat)(w:World)(hLw:L≤w.heap.size)(h:Pts w a n xs)(hw:∀ k,k<n→W64 (xs.getD k default).attr)(hn:n≤1000) :
  Calls Tryz.prog 182 #[.slice a n c,.func (Fn.func 154) #[] #[]] w fun e w'=>∃ ao co,e=.returned (.slice ao n co)∧OwnItZ 2 L w.heap.size w' ao n co (xs.map parI)∧Below w.heap.size w w':=by
 obtain ⟨i0,hi,hz0,hz1,hz2⟩:=info_parts Tryz.infoIt
 have H0:Hid (Pts w a n xs):=h
 have HPw:Hid (∀ k,k<n→W64 (xs.getD k default).attr):=hw
 have HLX:Hid (xs.length=n):=h.len
 clear h hw
 go_enter Tryz.func182,Tryz.ntmps182
 go_wp2
 go_loopw [5,10] (fun o i wr=>∃ (k:Nat) (ao:Option Addr) (cc:Nat),k≤n∧i=.int .i64 k∧o=.slice ao k cc∧Hid (OwnItZ 2 L w.heap.size wr ao k cc ((xs.take k).map parI))∧Below w.heap.size w wr) (fun _ i _=>n - (intOf i).toNat)
 case atStart=>exact ⟨0,none,0,Nat.zero_le _,rfl,rfl,ownItZ_none _ _ _ _,Below.refl _ _⟩
 case round =>
  obtain ⟨k,ao,cc,hk,rfl,rfl,HO,hbr⟩:=hrel
  have hws:=hbr.size
  by_cases hlt:k<n
  ·obtain ⟨b,off,rfl,hlb,hc,hsz⟩:=H0.out.get k hlt
   obtain ⟨y,hy⟩:∃ y,y=xs.getD k default:=⟨_,rfl⟩
   rw [← hy] at hc hsz
   have HYW:Hid (W64 y.attr):=by show W64 _; rw [hy]; exact HPw.out k hlt
   have HYS:Hid (y.val.size≤9223372036854775807):=hsz
   obtain ⟨z,hz⟩:∃ z,z=parI y:=⟨_,rfl⟩
   have HXK:Hid ((xs.take (k+1)).map parI=(xs.take k).map parI++[z]):=by show _=_; rw [hz,hy]; exact Par_next xs k (by rw [HLX.out]; exact hlt)
   obtain ⟨c0,c1⟩:=hc.of (w':=wr) (fun i=>hbr.cell (p:=⟨b,i,none⟩) hlb)
   clear hc hsz
   have hkni:(k:Int)<(n:Int):=by omega
   have hbw:b<wr.heap.size:=by omega
   have hbz:Below wr.heap.size wr (wr.alloc (.cells #[.int .i64 y.attr,.string y.val] 172)):=(Below.refl _ _).alloc (Nat.le_refl _) _
   have hbz2:Below w.heap.size w (wr.alloc (.cells #[.int .i64 y.attr,.string y.val] 172)):=hbr.trans (hbz.mono hws)
   have HCON:Hid (Calls Tryz.prog 154 #[.agg #[.int .i64 y.attr,.string y.val]] (wr.alloc (.cells #[.int .i64 y.attr,.string y.val] 172)) fun e w'=>ItR L (wr.alloc (.cells #[.int .i64 y.attr,.string y.val] 172)).heap.size 2 z e w'∧Below (wr.alloc (.cells #[.int .i64 y.attr,.string y.val] 172)).heap.size (wr.alloc (.cells #[.int .i64 y.attr,.string y.val] 172)) w'):=by rw [hz]; exact partItem_R y L _ (by have:=hbz.size; omega) HYW.out HYS.out
   clear hy hz
   go_wp2_with fail
   refine HCON.out.mono ?_
   rintro e w2 ⟨⟨ab,nb,cb,ak,nk,ck,rfl,hit⟩,hb2⟩
   have hb2r:Below wr.heap.size wr w2:=keepT hbz hb2
   have B2:Below w.heap.size w w2:=hbr.trans (hb2r.mono hws)
   have hal:Below w2.heap.size w2 (w2.alloc (.cells #[.int .i64 z.cls,.int .i64 z.tag,.bool z.cons,.slice ab nb cb,.slice ak nk ck] 75)):=(Below.refl _ _).alloc (Nat.le_refl _) _
   have B6:Below w.heap.size w (w2.alloc (.cells #[.int .i64 z.cls,.int .i64 z.tag,.bool z.cons,.slice ab nb cb,.slice ak nk ck] 75)):=B2.trans (hal.mono B2.size)
   have hs6:(w2.alloc (.cells #[.int .i64 z.cls,.int .i64 z.tag,.bool z.cons,.slice ab nb cb,.slice ak nk ck] 75)).heap.size=w2.heap.size+1:=by simp
   have hs2:=hb2r.size
   have hsz1:=hbz.size
   have HQ3:Hid (OwnItZ 2 L w.heap.size (w2.alloc (.cells #[.int .i64 z.cls,.int .i64 z.tag,.bool z.cons,.slice ab nb cb,.slice ak nk ck] 75)) ao k cc ((xs.take k).map parI)):=(HO.out.kept hb2r).kept hal
   obtain ⟨vs,hrow⟩:=HQ3.out.row
   have HROW:Hid (_):=hrow
   have hown:∀ b,(Value.slice ao k cc).ownBlock=some b→w.heap.size≤b∧b<wr.heap.size:=fun b hb=>by obtain ⟨vs0,hv0⟩:=HO.out.row; exact ⟨HO.out.2 b hb,(hv0.lt b hb).2⟩
   have HAPP:Hid (∀ g7 c7 w7,w7.ownsRow 0 75 5 (.slice (some ⟨g7,0,none⟩) (k+1) c7) (k+1) (vs++itc z ab nb cb ak nk ck)→(w2.alloc (.cells #[.int .i64 z.cls,.int .i64 z.tag,.bool z.cons,.slice ab nb cb,.slice ak nk ck] 75)).grownBy w7 (Value.slice ao k cc).ownBlock→((Value.slice ao k cc).ownBlock=some g7∨g7=w2.heap.size+1)→OwnItZ 2 L w.heap.size w7 (some ⟨g7,0,none⟩) (k+1) c7 ((xs.take (k+1)).map parI)∧Below w.heap.size w w7):=by
    intro g7 c7 w7 hv7 hg7 hl7
    have hit2:=hit.kept hal
    rw [HXK.out]
    refine ⟨HQ3.out.appended hit2.it (fun b hb=>⟨by have:=hb.1; omega,hb.2,fun e=>by have:=hown b e; have:=hb.1; omega⟩) (by omega) HROW.out hv7 hg7 (by rw [hs6]; exact hl7) B6.size,B6.grown hg7 (by have:=B6.size; omega) (fun kx hx=>HQ3.out.2 kx hx)⟩
   clear c0 c1 hrow HO hb2 hb2r B2 hal hbz hbz2 hit HCON
   go_wp2_with (at_builtin; refine wpList_append_lies _ rfl (.tmp 14) (.tmp 18) 73 rfl 0 75 i0 _ 5 72 Tryz.underlying73 hi hz0 hz1 hz2 rfl (by decide) _ k vs rfl HROW.out ⟨w2.heap.size,0,none⟩ 1 1 [.int .i64 z.cls,.int .i64 z.tag,.bool z.cons,.slice ab nb cb,.slice ak nk ck] rfl rfl (World.news_of_block (heap_alloc_new w2 (.cells #[.int .i64 z.cls,.int .i64 z.tag,.bool z.cons,.slice ab nb cb,.slice ak nk ck] 75))) (by intro u hu; simp only [List.mem_cons,List.not_mem_nil,or_false] at hu; rcases hu with rfl | rfl | rfl | rfl | rfl <;> rfl) (by decide) (by unfold maxLen; omega) (by omega) (Nat.zero_le _) (w2.heap.size+1) (by simp) ?_; intro g7 c7 w7 hv7 hg7 hl7 hlt7; have HN7:=HAPP.out g7 c7 w7 hv7 hg7 hl7; have HO7:Hid (_):=HN7.1; have B7:=HN7.2; clear hv7 hg7 hl7 hlt7 HN7 HAPP HQ3 HROW)
   go_roundw
   case rel=>exact ⟨k+1,_,c7,by omega,by go_num,rfl,HO7,B7⟩
   case measure=>simp [intOf]; omega
  ·obtain rfl:k=n:=by omega
   have HX:Hid (xs.take k=xs):=by show _=_; rw [List.take_of_length_le (by rw [HLX.out]; exact Nat.le_refl _)]
   go_wp2
   go_ret
   refine ⟨ao,cc,rfl,?_,hbr⟩
   have:=HO.out
   rw [HX.out] at this
   exact this
theorem listItemPar_R (a:Option Addr)(n c:Nat)(xs:List PT)(L:Nat)(w:World)(hLw:L≤w.heap.size)(h:Pts w a n xs)(hw:∀ k,k<n→W64 (xs.getD k default).attr)(hn:n≤1000) :
  Calls Tryz.prog 153 #[.slice a n c,.func (Fn.func 154) #[] #[]] w fun e w'=>ItR L w.heap.size 3 (lstI (xs.map parI)) e w'∧Below w.heap.size w w':=by
 have hbx:=box5_below w
 have hsz:=box5_size w
 have HB5:Hid (_=_):=box5_new w
 have HE:Hid (_):=eachPar_R a n c xs L (box5 w) (by omega) (h.kept hbx) hw hn
 clear h hw
 go_enter Tryz.func153,Tryz.ntmps153
 go_wp2_with fail
 refine Calls.mono HE.out ?_
 rintro e w2 ⟨ao,co,rfl,ho,hb2⟩
 have HK:Hid (KidsI 3 (fun b=>(b<L∨(box5 w).heap.size≤b)∧b<w2.heap.size) w2 ao n (xs.map parI)):=ho.kids
 have h5:=below_kept HB5.out hb2
 obtain ⟨_,q0,q1,q2,q3,q4,q5,q6,q7,q8,q9⟩:=Box5.of h5
 have H5:Hid (_=_):=h5
 have B2:Below w.heap.size w w2:=keepT hbx hb2
 have hs2:=hb2.size
 clear ho h5 hb2 HE
 go_wp2_with fail
 try simp only [Exit.inBlock,Exit.then]
 have T:=put5_touch w2 w.heap.size (.int .i64 0) (.int .i64 17) (.bool true) (.slice none 0 0) (.slice ao n co)
 have hZ:ListZ L (w.heap.size+1) 3 w2 ao n (xs.map parI):=⟨HK.out.mono (fun b hb=>⟨by have:=hb.1; omega,hb.2⟩)⟩
 exact bodyPost_ret (results_it rfl _ w.heap.size rfl _ _ _ _ _ _ (put5_heap H5.out _ _ _ _ _)) rfl ⟨⟨_,_,_,_,_,_,rfl,(hZ.itz (co:=co)).put hLw (by omega) _ _ _ _ _⟩,B2.trans (T.below (Nat.le_refl _) B2.size)⟩
def nameitemr (a:Option Addr)(n c:Nat)(xs:List PT)(L R G B:Nat):RSpec where
 m:=6
 n:=8
 slots:=[3,4,5,6,7,100005,100006,100007]
 kills:=[[],[],[],[],[],[],[],[5]]
 pres:=[[],[],[],[],[],[],[],[]]
 fact:=fun k v w=>match k with
  | 0=>v=.pointer (some ⟨G,0,none⟩)
  | 1=>v=.slice a n c
  | 2=>∃ a1 n1 c1 k1 m1 e1,v=.agg #[.int .i64 (lstI (xs.map parI)).cls,.int .i64 (lstI (xs.map parI)).tag,.bool (lstI (xs.map parI)).cons,.slice a1 n1 c1,.slice k1 m1 e1]∧ItZ L R 3 w (lstI (xs.map parI)) a1 n1 c1 k1 m1 e1∧L≤G∧G+1<R
  | 3=>∃ gr,v=.slice (some ⟨gr,0,none⟩) 1 1∧KidZ L R w gr 4 [lstI (xs.map parI)]∧L≤G∧G+1<R
  | 4=>∃ a0 n0 c0 k0 m0 e0,v=.agg #[.int .i64 (namI xs).cls,.int .i64 (namI xs).tag,.bool (namI xs).cons,.slice a0 n0 c0,.slice k0 m0 e0]∧ItZ L R 4 w (namI xs) a0 n0 c0 k0 m0 e0∧L≤G∧G+1<R
  | 5=>∃ a0 n0 c0 k0 m0 e0,w.heap[(G+1)]? = some (.cells #[.int .i64 (namI xs).cls,.int .i64 (namI xs).tag,.bool (namI xs).cons,.slice a0 n0 c0,.slice k0 m0 e0] 75 (0,0))∧ItZ L R 4 w (namI xs) a0 n0 c0 k0 m0 e0∧L≤G∧G+1<R
  | 6=>w.heap[G]? = some (.cells #[.slice a n c] 40 (0,0))
  | _=>w.heap[(G+1)]? = some (.cells #[.int .i64 0,.int .i64 0,.bool false,.slice none 0 0,.slice none 0 0] 75 (0,0))
theorem nameitemr_stb (a:Option Addr)(n c:Nat)(xs:List PT)(L R G B:Nat)(k:Nat)(hk:k<8):StB ((nameitemr a n c xs L R G (B)).fact k):=by
 match k,hk with
 | 0,_=>exact fun _ _ _ h _=>h
 | 1,_=>exact fun _ _ _ h _=>h
 | 2,_=>exact fun _ _ _ ⟨a1,n1,c1,k1,m1,e1,hv,q_0,q_1⟩ hb=>⟨a1,n1,c1,k1,m1,e1,hv,q_0.kept hb,q_1⟩
 | 3,_=>exact fun _ _ _ ⟨gr,hv,q_0,q_1⟩ hb=>⟨gr,hv,q_0.kept hb,q_1⟩
 | 4,_=>exact fun _ _ _ ⟨a0,n0,c0,k0,m0,e0,hv,q_0,q_1⟩ hb=>⟨a0,n0,c0,k0,m0,e0,hv,q_0.kept hb,q_1⟩
 | 5,_=>exact fun _ _ _ ⟨a0,n0,c0,k0,m0,e0,q_0,q_1,q_2⟩ hb=>⟨a0,n0,c0,k0,m0,e0,below_kept q_0 hb,q_1.kept hb,q_2⟩
 | 6,_=>exact fun _ _ _ q_0 hb=>below_kept q_0 hb
 | 7,_=>exact fun _ _ _ q_0 hb=>below_kept q_0 hb
 | k+8,hk=>omega
theorem nameitemr_st5 (a:Option Addr)(n c:Nat)(xs:List PT)(L R G B:Nat){W W2:World}{cs:Array Value}{fr:Nat × Nat}(hg:W.heap[(G+1)]? = some (.cells cs 75 fr))(ht:Touch ((G+1)) ((G+1)+1) W W2)(k:Nat)(hk:k<8)(hne:k≠5)(hkill:5∉(nameitemr a n c xs L R G (B)).kill k)(v:Value)(hfact:(nameitemr a n c xs L R G (B)).fact k v W):(nameitemr a n c xs L R G (B)).fact k v W2:=by
 match k,hk,hne,hkill,hfact with
 | 0,_,_,_,hq=>exact hq
 | 1,_,_,_,hq=>exact hq
 | 2,_,_,_,⟨a1,n1,c1,k1,m1,e1,hv,q_0,q_1⟩=>exact ⟨a1,n1,c1,k1,m1,e1,hv,q_0.touched ht (by omega),q_1⟩
 | 3,_,_,_,⟨gr,hv,q_0,q_1⟩=>exact ⟨gr,hv,q_0.touched ht (by omega),q_1⟩
 | 4,_,_,_,⟨a0,n0,c0,k0,m0,e0,hv,q_0,q_1⟩=>exact ⟨a0,n0,c0,k0,m0,e0,hv,q_0.touched ht (by omega),q_1⟩
 | 5,_,hne,_,_=>exact absurd rfl hne
 | 6,_,_,_,q_0=>exact box_box q_0 hg (by decide) ht
 | 7,_,_,hkill,_=>exact absurd (List.Mem.head _) hkill
 | k+8,hk,_,_,_=>omega
theorem nameItem_R (a:Option Addr)(n c:Nat)(xs:List PT)(L:Nat)(w:World)(hLw:L≤w.heap.size)(h:Pts w a n xs)(hw:∀ k,k<n→W64 (xs.getD k default).attr)(hn:n≤1000) :
  Calls Tryz.prog 102 #[.agg #[.slice a n c]] w fun e w'=>ItR L w.heap.size 4 (namI xs) e w'∧Below w.heap.size w w':=by
 obtain ⟨w1,hw1⟩:∃ w1,w1=(w.alloc (.cells #[.slice a n c] 40)).alloc (.cells #[.int .i64 0,.int .i64 0,.bool false,.slice none 0 0,.slice none 0 0] 75):=⟨_,rfl⟩
 have hbb:Below w.heap.size w w1:=by rw [hw1]; exact ((Below.refl _ _).alloc (Nat.le_refl _) _).alloc (by simp) _
 have HB1:Hid (_∧_):=two_blocks w (.cells #[.slice a n c] 40) (.cells #[.int .i64 0,.int .i64 0,.bool false,.slice none 0 0,.slice none 0 0] 75)
 rw [← hw1] at HB1
 have hsz:w1.heap.size=w.heap.size+2:=by rw [hw1]; simp
 have HGB:L≤w.heap.size∧w.heap.size+1<w1.heap.size:=⟨hLw,by omega⟩
 have HLB:∀ W,Below w.heap.size w1 W→L≤W.heap.size:=fun W hW=>by have:=hW.size; omega
 have HBB:w.heap.size≤w1.heap.size:=hbb.size
 have HW:Hid (_=_):=hw1
 clear hw1
 go_enter Tryz.func102,Tryz.ntmps102
 go_upto_region 1 with fail
 rw [← HW.out]
 clear HW
 refine wp_region_rp (nameitemr a n c xs L w1.heap.size w.heap.size (w.heap.size)) [3,4,5,6,7] (w.heap.size) (fun a0=>a0.tmps.size=8∧aT a0 1=.pointer (some ⟨w.heap.size,0,none⟩)∧aT a0 2=.pointer (some ⟨(w.heap.size+1),0,none⟩)) rfl (by kernel_rfl) rfl ⟨rfl,rfl,rfl⟩ (nameitemr_stb a n c xs L w1.heap.size w.heap.size (w.heap.size)) ?_ ?_ ?_
 ·intro k hk hk2
  match k,hk,hk2 with
  | 6,_,_=>exact HB1.out.1
  | 7,_,_=>exact HB1.out.2
  | 0,hk,_=>exact absurd hk (by show ¬ (6≤0); omega)
  | 1,hk,_=>exact absurd hk (by show ¬ (6≤1); omega)
  | 2,hk,_=>exact absurd hk (by show ¬ (6≤2); omega)
  | 3,hk,_=>exact absurd hk (by show ¬ (6≤3); omega)
  | 4,hk,_=>exact absurd hk (by show ¬ (6≤4); omega)
  | 5,hk,_=>exact absurd hk (by show ¬ (6≤5); omega)
  | k+8,_,hk2=>exact absurd hk2 (by show ¬ (k+8<8); omega)
 ·rintro a0 ⟨hz,g1,g2⟩
  refine StepsRI.cons ?_ (StepsRI.cons ?_ (StepsRI.cons ?_ (StepsRI.cons ?_ (StepsRI.cons ?_ (StepsRI.cons ?_ (StepsRI.nil))))))
  ·intro lQ b W hI hUN hED KQ hKQ
   exact opw_field 40 1 0 rfl _ ((hI.fr.same 1 (by decide)).trans g1) _ (by kernel_rfl) (hKQ.out _ _ (hI.put 0 3 rfl rfl (by rw [hz]; decide) rfl hUN rfl HBB (nameitemr_stb a n c xs L w1.heap.size w.heap.size (w.heap.size)) (Below.refl _ _) rfl))
  ·intro lQ b W hI hUN hED KQ hKQ
   have f:=hI.got 0 (of_decide_eq_true rfl) (edge hED 0 (by kernel_rfl)) rfl
   have hg:=(hI.vot 6 (of_decide_eq_true rfl) (of_decide_eq_true rfl) rfl)
   have hc:W.cell? ⟨w.heap.size,0,none⟩=some (.slice a n c):=(cell_of_row _ _ 0 _ _ (0,0) hg).trans rfl
   exact opw_load1 38 3 rfl _ f _ (by simp [Instr.loadAt,go_sem,hc]) (hKQ.out _ _ (hI.put 1 4 rfl rfl (by rw [hz]; decide) rfl hUN rfl HBB (nameitemr_stb a n c xs L w1.heap.size w.heap.size (w.heap.size)) (Below.refl _ _) rfl))
  ·intro lQ b W hI hUN hED KQ hKQ
   have f0:aT b 4=.slice a n c:=hI.got 1 (of_decide_eq_true rfl) (edge hED 1 (by kernel_rfl)) rfl
   refine opw_call 153 #[.tmp 4,.func 154] _ _ _ rfl Tryz.func153 (by kernel_rfl) rfl #[.slice a n c,.func (Fn.func 154) #[] #[]] (by simp [ev,f0]; rfl) ?_
   refine (listItemPar_R a n c xs L W (HLB W hI.bel) (h.kept (hbb.trans hI.bel)) hw hn).mono ?_
   rintro r W2 ⟨⟨a1,n1,c1,k1,m1,e1,rfl,hzI⟩,hb⟩
   exact ⟨_,rfl,hKQ.out _ _ (hI.put 2 5 rfl rfl (by rw [hz]; decide) rfl hUN rfl HBB (nameitemr_stb a n c xs L w1.heap.size w.heap.size (w.heap.size)) hb ⟨a1,n1,c1,k1,m1,e1,rfl,((hzI.mono hI.bel.size).le (by decide)),HGB⟩)⟩
  ·intro lQ b W hI hUN hED KQ hKQ
   obtain ⟨a1,n1,c1,k1,m1,e1,f1,o1,_⟩:=hI.got 2 (of_decide_eq_true rfl) (edge hED 2 (by kernel_rfl)) rfl
   replace f1:aT b 5=.agg #[.int .i64 (lstI (xs.map parI)).cls,.int .i64 (lstI (xs.map parI)).tag,.bool (lstI (xs.map parI)).cons,.slice a1 n1 c1,.slice k1 m1 e1]:=f1
   refine opw_buildSliceT _ 1 _ rfl #[(0,.agg #[.int .i64 (lstI (xs.map parI)).cls,.int .i64 (lstI (xs.map parI)).tag,.bool (lstI (xs.map parI)).cons,.slice a1 n1 c1,.slice k1 m1 e1])] (by simp [ev,f1]) (.slice (some ⟨W.heap.size,0,none⟩) 1 1) (W.alloc (.cells #[.int .i64 (lstI (xs.map parI)).cls,.int .i64 (lstI (xs.map parI)).tag,.bool (lstI (xs.map parI)).cons,.slice a1 n1 c1,.slice k1 m1 e1] 75)) (by kernel_rfl) ?_
   exact hKQ.out _ _ (hI.put 3 6 rfl rfl (by rw [hz]; decide) rfl hUN rfl HBB (nameitemr_stb a n c xs L w1.heap.size w.heap.size (w.heap.size)) ((Below.refl _ _).alloc (Nat.le_refl _) _) ⟨W.heap.size,rfl,kidZ_n1 hI.bel.size o1,HGB⟩)
  ·intro lQ b W hI hUN hED KQ hKQ
   obtain ⟨gr,f0,o0,_⟩:=hI.got 3 (of_decide_eq_true rfl) (edge hED 3 (by kernel_rfl)) rfl
   replace f0:aT b 6=.slice (some ⟨gr,0,none⟩) 1 1:=f0
   refine opw_call 152 #[.tmp 6] _ _ _ rfl Tryz.func152 (by kernel_rfl) rfl #[.slice (some ⟨gr,0,none⟩) 1 1] (by simp [ev,f0]) ?_
   refine (structItem_R o0 rfl).mono ?_
   rintro r W2 ⟨⟨a0,n0,c0,k0,m0,e0,rfl,hzI⟩,hb⟩
   exact ⟨_,rfl,hKQ.out _ _ (hI.put 4 7 rfl rfl (by rw [hz]; decide) rfl hUN rfl HBB (nameitemr_stb a n c xs L w1.heap.size w.heap.size (w.heap.size)) hb ⟨a0,n0,c0,k0,m0,e0,rfl,hzI,HGB⟩)⟩
  ·intro lQ b W hI hUN hED KQ hKQ
   have hgb:=(hI.vot1 7 5 (of_decide_eq_true rfl) (of_decide_eq_true rfl) hUN rfl)
   have fb:=((hI.fr.same 2 (by decide)).trans g2)
   have f:=hI.got 4 (of_decide_eq_true rfl) (edge hED 4 (by kernel_rfl)) rfl
   obtain ⟨a0,n0,c0,k0,m0,e0,f,o_0,o_1⟩:=f
   refine wp_store_row 75 _ _ rfl ((w.heap.size+1)) #[.int .i64 (namI xs).cls,.int .i64 (namI xs).tag,.bool (namI xs).cons,.slice a0 n0 c0,.slice k0 m0 e0] fb f 75 _ hgb (by kernel_rfl) rfl (by simp [Value.oneCell']) ?_
   have ht:=setRow_touch W ((w.heap.size+1)) #[.int .i64 (namI xs).cls,.int .i64 (namI xs).tag,.bool (namI xs).cons,.slice a0 n0 c0,.slice k0 m0 e0]
   exact hKQ.out _ _ (hI.store 5 (fun j hj=>by cases hj) (hI.bel.trans (ht.below (by first | exact HGE2 | omega) (Nat.le_trans HBB hI.bel.size))) (nameitemr_st5 a n c xs L w1.heap.size w.heap.size (w.heap.size) hgb ht) ⟨a0,n0,c0,k0,m0,e0,(setRow_heap W ((w.heap.size+1)) _ _ _ _ hgb),o_0.touched ht (by omega),o_1⟩)
 ·intro b W hf hb F
  obtain ⟨a0,n0,c0,k0,m0,e0,hbx,hz,_⟩:=F 5 (of_decide_eq_true rfl) rfl
  rw [hf.eq]
  simp only [puts,Act.put,List.setIfInBounds_toArray,List.set_cons_zero,List.set_cons_succ]
  clear hf F
  generalize aT b=AT
  clear b
  go_wp2
  try simp only [Exit.inBlock,Exit.then]
  exact bodyPost_ret (results_it rfl _ (w.heap.size+1) rfl _ _ _ _ _ _ hbx) rfl ⟨⟨a0,n0,c0,k0,m0,e0,rfl,hz.mono hbb.size⟩,hbb.trans hb⟩
end Go.Proofs.YtmdfbnlgfhjnoaaGreatDoor
