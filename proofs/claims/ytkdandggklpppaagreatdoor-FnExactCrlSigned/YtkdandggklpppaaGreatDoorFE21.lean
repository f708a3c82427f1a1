import Derived.Test.YtkdandggklpppaaGreatDoorFE20
set_option maxRecDepth 10000
set_option maxHeartbeats 8000000
set_option linter.unusedVariables false
namespace Go.Proofs.YtkdandggklpppaaGreatDoor
open Go.RowKit Go.Sort
def ItR (L R d:Nat)(x:It)(e:Ending)(w':World):Prop:=∃ ab nb cb ak nk ck,e=.returned (.agg #[.int .i64 x.cls,.int .i64 x.tag,.bool x.cons,.slice ab nb cb,.slice ak nk ck])∧ItZ L R d w' x ab nb cb ak nk ck
theorem ItZ.le {L B d d':Nat}{w:World}{x:It}{ab:Option Addr}{nb cb:Nat}{ak:Option Addr}{nk ck:Nat}(h:ItZ L B d w x ab nb cb ak nk ck)(hd:d≤d'):ItZ L B d' w x ab nb cb ak nk ck:=by
 induction hd with
 | refl=>exact h
 | step _ ih=>exact ih.more
theorem rowZ {L B:Nat}{w:World}{g k n c:Nat}{bs:List Int}(hr:Row w (some ⟨g,k,none⟩) n bs)(hB:B≤g)(t:Int)(hn:n≤9223372036854775807):ItZ L B 1 w (.mk 0 t false bs []) (some ⟨g,k,none⟩) n c none 0 0:=by
 refine ⟨⟨⟨hr,fun x hx h0=>?_⟩,fun e=>(by cases e),hn,KidsI.none 0 _ _ _⟩⟩
 obtain ⟨b,off,ha,hlt,_⟩:=hr.get 0 h0
 injection hx with hx
 injection ha with ha
 injection ha with ha _
 rw [← hx]
 refine ⟨.inr hB,?_⟩
 show g<_
 rw [ha]
 exact hlt
theorem Own.itzB {L B:Nat}{w:World}{a:Option Addr}{n c:Nat}{bs:List Int}(h:Own B w a n c bs)(t:Int)(hn:n≤9223372036854775807):ItZ L B 1 w (.mk 0 t false bs []) a n c none 0 0:=⟨(h.itv1 t hn).mono (fun b hs=>⟨.inr hs.1,hs.2⟩)⟩
theorem kidsI_n1 {d:Nat}{S:Nat→Prop}{X:World}{x1:It}{a1:Option Addr}{n1 c1:Nat}{k1:Option Addr}{m1 e1:Nat}(h1:ItV d S X x1 a1 n1 c1 k1 m1 e1){T:Nat→Prop}(hs:∀ b,S b→T b)(hT:T X.heap.size){W:World}{t:Nat}(hW:W=X.alloc (.cells #[.int .i64 x1.cls,.int .i64 x1.tag,.bool x1.cons,.slice a1 n1 c1,.slice k1 m1 e1] t)):KidsI (d+1) T W (some ⟨X.heap.size,0,none⟩) 1 [x1]:=by
 subst hW
 have hb:Below X.heap.size X (X.alloc (.cells #[.int .i64 x1.cls,.int .i64 x1.tag,.bool x1.cons,.slice a1 n1 c1,.slice k1 m1 e1] t)):=(Below.refl _ _).alloc (Nat.le_refl _) _
 have hc:=fun j=>cell_of_row _ X.heap.size j _ t (0,0) (heap_alloc_new X (.cells #[.int .i64 x1.cls,.int .i64 x1.tag,.bool x1.cons,.slice a1 n1 c1,.slice k1 m1 e1] t))
 have g1:=(h1.kept hb).mono hs
 refine ⟨rfl,by decide,fun k hk=>⟨X.heap.size,0,rfl,by simp,hT,?_⟩⟩
 rcases (show k=0 by omega) with rfl
 ·exact ⟨a1,n1,c1,k1,m1,e1,(hc 0).trans rfl,(hc 1).trans rfl,(hc 2).trans rfl,(hc 3).trans rfl,(hc 4).trans rfl,g1.row,g1.nil,g1.max,g1.kids⟩
theorem kidZ_n1 {L:Nat}{B d:Nat}{X:World}{x1:It}{a1:Option Addr}{n1 c1:Nat}{k1:Option Addr}{m1 e1:Nat}{t:Nat}(hB:B≤X.heap.size)(h1:ItZ L B d X x1 a1 n1 c1 k1 m1 e1):KidZ L B (X.alloc (.cells #[.int .i64 x1.cls,.int .i64 x1.tag,.bool x1.cons,.slice a1 n1 c1,.slice k1 m1 e1] t)) X.heap.size (d+1) [x1]:=by
 refine ⟨fun b=>(b<L∨B≤b)∧b<X.heap.size+1,kidsI_n1 (S:=fun b=>(b<L∨B≤b)∧b<X.heap.size) h1.it (fun b hb=>⟨hb.1,by have:=hb.2; omega⟩) ⟨.inr hB,by omega⟩ rfl,fun b hb=>⟨hb.1,?_⟩⟩
 have s:(X.alloc (.cells #[.int .i64 x1.cls,.int .i64 x1.tag,.bool x1.cons,.slice a1 n1 c1,.slice k1 m1 e1] t)).heap.size=X.heap.size+1:=by simp
 have:=hb.2
 omega
theorem kidsI_n8 {d:Nat}{S:Nat→Prop}{X:World}{x1 x2 x3 x4 x5 x6 x7 x8:It}{a1:Option Addr}{n1 c1:Nat}{k1:Option Addr}{m1 e1:Nat}{a2:Option Addr}{n2 c2:Nat}{k2:Option Addr}{m2 e2:Nat}{a3:Option Addr}{n3 c3:Nat}{k3:Option Addr}{m3 e3:Nat}{a4:Option Addr}{n4 c4:Nat}{k4:Option Addr}{m4 e4:Nat}{a5:Option Addr}{n5 c5:Nat}{k5:Option Addr}{m5 e5:Nat}{a6:Option Addr}{n6 c6:Nat}{k6:Option Addr}{m6 e6:Nat}{a7:Option Addr}{n7 c7:Nat}{k7:Option Addr}{m7 e7:Nat}{a8:Option Addr}{n8 c8:Nat}{k8:Option Addr}{m8 e8:Nat}(h1:ItV d S X x1 a1 n1 c1 k1 m1 e1)(h2:ItV d S X x2 a2 n2 c2 k2 m2 e2)(h3:ItV d S X x3 a3 n3 c3 k3 m3 e3)(h4:ItV d S X x4 a4 n4 c4 k4 m4 e4)(h5:ItV d S X x5 a5 n5 c5 k5 m5 e5)(h6:ItV d S X x6 a6 n6 c6 k6 m6 e6)(h7:ItV d S X x7 a7 n7 c7 k7 m7 e7)(h8:ItV d S X x8 a8 n8 c8 k8 m8 e8){T:Nat→Prop}(hs:∀ b,S b→T b)(hT:T X.heap.size){W:World}{t:Nat}(hW:W=X.alloc (.cells #[.int .i64 x1.cls,.int .i64 x1.tag,.bool x1.cons,.slice a1 n1 c1,.slice k1 m1 e1,.int .i64 x2.cls,.int .i64 x2.tag,.bool x2.cons,.slice a2 n2 c2,.slice k2 m2 e2,.int .i64 x3.cls,.int .i64 x3.tag,.bool x3.cons,.slice a3 n3 c3,.slice k3 m3 e3,.int .i64 x4.cls,.int .i64 x4.tag,.bool x4.cons,.slice a4 n4 c4,.slice k4 m4 e4,.int .i64 x5.cls,.int .i64 x5.tag,.bool x5.cons,.slice a5 n5 c5,.slice k5 m5 e5,.int .i64 x6.cls,.int .i64 x6.tag,.bool x6.cons,.slice a6 n6 c6,.slice k6 m6 e6,.int .i64 x7.cls,.int .i64 x7.tag,.bool x7.cons,.slice a7 n7 c7,.slice k7 m7 e7,.int .i64 x8.cls,.int .i64 x8.tag,.bool x8.cons,.slice a8 n8 c8,.slice k8 m8 e8] t)):KidsI (d+1) T W (some ⟨X.heap.size,0,none⟩) 8 [x1,x2,x3,x4,x5,x6,x7,x8]:=by
 subst hW
 have hb:Below X.heap.size X (X.alloc (.cells #[.int .i64 x1.cls,.int .i64 x1.tag,.bool x1.cons,.slice a1 n1 c1,.slice k1 m1 e1,.int .i64 x2.cls,.int .i64 x2.tag,.bool x2.cons,.slice a2 n2 c2,.slice k2 m2 e2,.int .i64 x3.cls,.int .i64 x3.tag,.bool x3.cons,.slice a3 n3 c3,.slice k3 m3 e3,.int .i64 x4.cls,.int .i64 x4.tag,.bool x4.cons,.slice a4 n4 c4,.slice k4 m4 e4,.int .i64 x5.cls,.int .i64 x5.tag,.bool x5.cons,.slice a5 n5 c5,.slice k5 m5 e5,.int .i64 x6.cls,.int .i64 x6.tag,.bool x6.cons,.slice a6 n6 c6,.slice k6 m6 e6,.int .i64 x7.cls,.int .i64 x7.tag,.bool x7.cons,.slice a7 n7 c7,.slice k7 m7 e7,.int .i64 x8.cls,.int .i64 x8.tag,.bool x8.cons,.slice a8 n8 c8,.slice k8 m8 e8] t)):=(Below.refl _ _).alloc (Nat.le_refl _) _
 have hc:=fun j=>cell_of_row _ X.heap.size j _ t (0,0) (heap_alloc_new X (.cells #[.int .i64 x1.cls,.int .i64 x1.tag,.bool x1.cons,.slice a1 n1 c1,.slice k1 m1 e1,.int .i64 x2.cls,.int .i64 x2.tag,.bool x2.cons,.slice a2 n2 c2,.slice k2 m2 e2,.int .i64 x3.cls,.int .i64 x3.tag,.bool x3.cons,.slice a3 n3 c3,.slice k3 m3 e3,.int .i64 x4.cls,.int .i64 x4.tag,.bool x4.cons,.slice a4 n4 c4,.slice k4 m4 e4,.int .i64 x5.cls,.int .i64 x5.tag,.bool x5.cons,.slice a5 n5 c5,.slice k5 m5 e5,.int .i64 x6.cls,.int .i64 x6.tag,.bool x6.cons,.slice a6 n6 c6,.slice k6 m6 e6,.int .i64 x7.cls,.int .i64 x7.tag,.bool x7.cons,.slice a7 n7 c7,.slice k7 m7 e7,.int .i64 x8.cls,.int .i64 x8.tag,.bool x8.cons,.slice a8 n8 c8,.slice k8 m8 e8] t))
 have g1:=(h1.kept hb).mono hs
 have g2:=(h2.kept hb).mono hs
 have g3:=(h3.kept hb).mono hs
 have g4:=(h4.kept hb).mono hs
 have g5:=(h5.kept hb).mono hs
 have g6:=(h6.kept hb).mono hs
 have g7:=(h7.kept hb).mono hs
 have g8:=(h8.kept hb).mono hs
 refine ⟨rfl,by decide,fun k hk=>⟨X.heap.size,0,rfl,by simp,hT,?_⟩⟩
 rcases (show k=0∨k=1∨k=2∨k=3∨k=4∨k=5∨k=6∨k=7 by omega) with rfl | rfl | rfl | rfl | rfl | rfl | rfl | rfl
 ·exact ⟨a1,n1,c1,k1,m1,e1,(hc 0).trans rfl,(hc 1).trans rfl,(hc 2).trans rfl,(hc 3).trans rfl,(hc 4).trans rfl,g1.row,g1.nil,g1.max,g1.kids⟩
 ·exact ⟨a2,n2,c2,k2,m2,e2,(hc 5).trans rfl,(hc 6).trans rfl,(hc 7).trans rfl,(hc 8).trans rfl,(hc 9).trans rfl,g2.row,g2.nil,g2.max,g2.kids⟩
 ·exact ⟨a3,n3,c3,k3,m3,e3,(hc 10).trans rfl,(hc 11).trans rfl,(hc 12).trans rfl,(hc 13).trans rfl,(hc 14).trans rfl,g3.row,g3.nil,g3.max,g3.kids⟩
 ·exact ⟨a4,n4,c4,k4,m4,e4,(hc 15).trans rfl,(hc 16).trans rfl,(hc 17).trans rfl,(hc 18).trans rfl,(hc 19).trans rfl,g4.row,g4.nil,g4.max,g4.kids⟩
 ·exact ⟨a5,n5,c5,k5,m5,e5,(hc 20).trans rfl,(hc 21).trans rfl,(hc 22).trans rfl,(hc 23).trans rfl,(hc 24).trans rfl,g5.row,g5.nil,g5.max,g5.kids⟩
 ·exact ⟨a6,n6,c6,k6,m6,e6,(hc 25).trans rfl,(hc 26).trans rfl,(hc 27).trans rfl,(hc 28).trans rfl,(hc 29).trans rfl,g6.row,g6.nil,g6.max,g6.kids⟩
 ·exact ⟨a7,n7,c7,k7,m7,e7,(hc 30).trans rfl,(hc 31).trans rfl,(hc 32).trans rfl,(hc 33).trans rfl,(hc 34).trans rfl,g7.row,g7.nil,g7.max,g7.kids⟩
 ·exact ⟨a8,n8,c8,k8,m8,e8,(hc 35).trans rfl,(hc 36).trans rfl,(hc 37).trans rfl,(hc 38).trans rfl,(hc 39).trans rfl,g8.row,g8.nil,g8.max,g8.kids⟩
theorem kidZ_n8 {L:Nat}{B d:Nat}{X:World}{x1 x2 x3 x4 x5 x6 x7 x8:It}{a1:Option Addr}{n1 c1:Nat}{k1:Option Addr}{m1 e1:Nat}{a2:Option Addr}{n2 c2:Nat}{k2:Option Addr}{m2 e2:Nat}{a3:Option Addr}{n3 c3:Nat}{k3:Option Addr}{m3 e3:Nat}{a4:Option Addr}{n4 c4:Nat}{k4:Option Addr}{m4 e4:Nat}{a5:Option Addr}{n5 c5:Nat}{k5:Option Addr}{m5 e5:Nat}{a6:Option Addr}{n6 c6:Nat}{k6:Option Addr}{m6 e6:Nat}{a7:Option Addr}{n7 c7:Nat}{k7:Option Addr}{m7 e7:Nat}{a8:Option Addr}{n8 c8:Nat}{k8:Option Addr}{m8 e8:Nat}{t:Nat}(hB:B≤X.heap.size)(h1:ItZ L B d X x1 a1 n1 c1 k1 m1 e1)(h2:ItZ L B d X x2 a2 n2 c2 k2 m2 e2)(h3:ItZ L B d X x3 a3 n3 c3 k3 m3 e3)(h4:ItZ L B d X x4 a4 n4 c4 k4 m4 e4)(h5:ItZ L B d X x5 a5 n5 c5 k5 m5 e5)(h6:ItZ L B d X x6 a6 n6 c6 k6 m6 e6)(h7:ItZ L B d X x7 a7 n7 c7 k7 m7 e7)(h8:ItZ L B d X x8 a8 n8 c8 k8 m8 e8):KidZ L B (X.alloc (.cells #[.int .i64 x1.cls,.int .i64 x1.tag,.bool x1.cons,.slice a1 n1 c1,.slice k1 m1 e1,.int .i64 x2.cls,.int .i64 x2.tag,.bool x2.cons,.slice a2 n2 c2,.slice k2 m2 e2,.int .i64 x3.cls,.int .i64 x3.tag,.bool x3.cons,.slice a3 n3 c3,.slice k3 m3 e3,.int .i64 x4.cls,.int .i64 x4.tag,.bool x4.cons,.slice a4 n4 c4,.slice k4 m4 e4,.int .i64 x5.cls,.int .i64 x5.tag,.bool x5.cons,.slice a5 n5 c5,.slice k5 m5 e5,.int .i64 x6.cls,.int .i64 x6.tag,.bool x6.cons,.slice a6 n6 c6,.slice k6 m6 e6,.int .i64 x7.cls,.int .i64 x7.tag,.bool x7.cons,.slice a7 n7 c7,.slice k7 m7 e7,.int .i64 x8.cls,.int .i64 x8.tag,.bool x8.cons,.slice a8 n8 c8,.slice k8 m8 e8] t)) X.heap.size (d+1) [x1,x2,x3,x4,x5,x6,x7,x8]:=by
 refine ⟨fun b=>(b<L∨B≤b)∧b<X.heap.size+1,kidsI_n8 (S:=fun b=>(b<L∨B≤b)∧b<X.heap.size) h1.it h2.it h3.it h4.it h5.it h6.it h7.it h8.it (fun b hb=>⟨hb.1,by have:=hb.2; omega⟩) ⟨.inr hB,by omega⟩ rfl,fun b hb=>⟨hb.1,?_⟩⟩
 have s:(X.alloc (.cells #[.int .i64 x1.cls,.int .i64 x1.tag,.bool x1.cons,.slice a1 n1 c1,.slice k1 m1 e1,.int .i64 x2.cls,.int .i64 x2.tag,.bool x2.cons,.slice a2 n2 c2,.slice k2 m2 e2,.int .i64 x3.cls,.int .i64 x3.tag,.bool x3.cons,.slice a3 n3 c3,.slice k3 m3 e3,.int .i64 x4.cls,.int .i64 x4.tag,.bool x4.cons,.slice a4 n4 c4,.slice k4 m4 e4,.int .i64 x5.cls,.int .i64 x5.tag,.bool x5.cons,.slice a5 n5 c5,.slice k5 m5 e5,.int .i64 x6.cls,.int .i64 x6.tag,.bool x6.cons,.slice a6 n6 c6,.slice k6 m6 e6,.int .i64 x7.cls,.int .i64 x7.tag,.bool x7.cons,.slice a7 n7 c7,.slice k7 m7 e7,.int .i64 x8.cls,.int .i64 x8.tag,.bool x8.cons,.slice a8 n8 c8,.slice k8 m8 e8] t)).heap.size=X.heap.size+1:=by simp
 have:=hb.2
 omega
def flgI (b:Bool):It:=.mk 0 1 false [if b then 255 else 0] []
def parI (x:PT):It:=strI [numI x.attr,bytI (bytesOf x.val)]
def namI (xs:List PT):It:=strI [lstI (xs.map parI)]
theorem numberItem_R (n:Int)(L:Nat)(w:World)(h:W64 n) :
  Calls Tryz.prog 54 #[.int .i64 n] w fun e w'=>ItR L w.heap.size 1 (numI n) e w'∧Below w.heap.size w w':=by
 refine (numberItem_agg n w h.1 h.2).mono ?_
 rintro e w1 ⟨g,k,rfl,hge,hr,hb⟩
 exact ⟨⟨_,_,_,_,_,_,rfl,rowZ hr hge 2 (by have:=wsz_bd n; omega)⟩,hb⟩
theorem bytesItem_aggC (a:Option Addr)(n c:Nat)(bs:List Int)(w:World) :
  Calls Tryz.prog 115 #[.slice a n c] w fun e w'=>e=.returned (.agg #[.int .i64 0,.int .i64 4,.bool false,.slice a n c,.slice none 0 0])∧Below w.heap.size w w':=bytesItem_any a n c bs w
theorem ItZ.put {L d:Nat}{w w2:World}{x:It}{ab:Option Addr}{nb cb:Nat}{ak:Option Addr}{nk ck:Nat}{B:Nat}(hZ:ItZ L B d w2 x ab nb cb ak nk ck)(hL:L≤w.heap.size)(hB:w.heap.size<B)(u0 u1 u2 u3 u4:Value):ItZ L w.heap.size d (put5I w2 w.heap.size u0 u1 u2 u3 u4) x ab nb cb ak nk ck:=(hZ.touched (put5_touch w2 w.heap.size u0 u1 u2 u3 u4) ⟨hL,hB⟩).mono (Nat.le_of_lt hB)
theorem textItem_R (s:ByteArray)(L:Nat)(w:World)(hs:s.size≤9223372036854775807)(hL:L≤w.heap.size) :
  Calls Tryz.prog 106 #[.string s] w fun e w'=>ItR L w.heap.size 1 (bytI (bytesOf s)) e w'∧Below w.heap.size w w':=by
 have hbx:=box5_below w
 have hsz:=box5_size w
 have HB5:Hid (_=_):=box5_new w
 obtain ⟨cp,W2,hcv,hrow,hb3⟩:=conv_str (w.alloc (.cells #[.int .i64 0,.int .i64 0,.bool false,.slice none 0 0,.slice none 0 0] 81)) s
 have hb3':Below (box5 w).heap.size (box5 w) W2:=hb3
 have HR:Hid (Row W2 (some ⟨w.heap.size+1,0,none⟩) s.size (bytesOf s)):=by
  have h9:Row W2 (some ⟨(box5 w).heap.size,0,none⟩) s.size (bytesOf s):=hrow
  rw [hsz] at h9
  exact h9
 clear hrow hb3
 go_enter Tryz.func106,Tryz.ntmps106
 go_wp2_with fail
 refine (bytesItem_aggC (some ⟨w.heap.size+1,0,none⟩) s.size cp (bytesOf s) W2).mono ?_
 rintro e w2 ⟨rfl,hb2⟩
 have hb23:Below (box5 w).heap.size (box5 w) w2:=keepT hb3' hb2
 have HR2:Hid (Row w2 (some ⟨w.heap.size+1,0,none⟩) s.size (bytesOf s)):=HR.out.kept hb2
 have h5:=below_kept HB5.out hb23
 obtain ⟨_,q0,q1,q2,q3,q4,q5,q6,q7,q8,q9⟩:=Box5.of h5
 have H5:Hid (_=_):=h5
 have B2:Below w.heap.size w w2:=keepT hbx hb23
 clear h5 hb2 hb23 hcv hb3'
 go_wp2_with fail
 try simp only [Exit.inBlock,Exit.then]
 have T:=put5_touch w2 w.heap.size (.int .i64 0) (.int .i64 4) (.bool false) (.slice (some ⟨w.heap.size+1,0,none⟩) s.size cp) (.slice none 0 0)
 have hZ:ItZ L (w.heap.size+1) 1 w2 (bytI (bytesOf s)) (some ⟨w.heap.size+1,0,none⟩) s.size cp none 0 0:=rowZ HR2.out (Nat.le_refl _) 4 hs
 exact bodyPost_ret (results_it rfl _ w.heap.size rfl _ _ _ _ _ _ (put5_heap H5.out _ _ _ _ _)) rfl ⟨⟨_,_,_,_,_,_,rfl,hZ.put hL (by omega) _ _ _ _ _⟩,B2.trans (T.below (Nat.le_refl _) B2.size)⟩
theorem boolTag_R (w:World):Calls Tryz.prog 108 #[.agg #[]] w fun e w'=>e=.returned (.int .i64 1)∧Below w.heap.size w w':=by
 go_enter Tryz.func108,Tryz.ntmps108
 go_wp2
 go_ret
 exact ⟨rfl,(Below.refl _ _).alloc (Nat.le_refl _) _⟩
theorem boolItem_0 (w:World)(L:Nat)(hL:L≤w.heap.size):Calls Tryz.prog 88 #[.agg #[],.agg #[.bool false,.int .i64 0,.slice none 0 0,.slice none 0 0,.slice none 0 0]] w fun e w'=>ItR L w.heap.size 1 (flgI false) e w'∧Below w.heap.size w w':=by
 obtain ⟨wa,hwa⟩:∃ wa,wa=(w.alloc (.cells #[] 128)).alloc (.cells #[.bool false,.int .i64 0,.slice none 0 0,.slice none 0 0,.slice none 0 0] 132):=⟨_,rfl⟩
 have hbA:Below w.heap.size w wa:=by rw [hwa]; exact ((Below.refl _ _).alloc (Nat.le_refl _) _).alloc (by simp) _
 have hsA:wa.heap.size=w.heap.size+1+1:=by rw [hwa]; simp
 obtain ⟨w1,hw1⟩:∃ w1,w1=box5 wa:=⟨_,rfl⟩
 have hbb:Below w.heap.size w w1:=by rw [hw1]; exact keepT hbA (box5_below wa)
 have hsz:w1.heap.size=w.heap.size+3:=by rw [hw1,box5_size,hsA]
 have HB:Hid (w1.heap[w.heap.size+1+1]? = some (.cells #[.int .i64 0,.int .i64 0,.bool false,.slice none 0 0,.slice none 0 0] 81 (0,0))):=by show _=_; rw [← hsA,hw1]; exact box5_new wa
 have HW:Hid (w1=((w.alloc (.cells #[] 128)).alloc (.cells #[.bool false,.int .i64 0,.slice none 0 0,.slice none 0 0,.slice none 0 0] 132)).alloc (.cells #[.int .i64 0,.int .i64 0,.bool false,.slice none 0 0,.slice none 0 0] 81)):=by show _=_; rw [hw1,hwa]; rfl
 clear hw1 hwa hbA hsA
 go_enter Tryz.func88,Tryz.ntmps88
 go_wp2_with fail
 rw [← HW.out]
 clear HW
 refine (boolTag_R w1).mono ?_
 rintro e w2 ⟨rfl,hb2⟩
 have hal:Below w2.heap.size w2 (w2.alloc (.cells #[.int .u8 0] 5)):=(Below.refl _ _).alloc (Nat.le_refl _) _
 have h5:=below_kept (below_kept HB.out hb2) hal
 obtain ⟨_,q0,q1,q2,q3,q4,q5,q6,q7,q8,q9⟩:=Box5.of h5
 have H5:Hid (_=_):=h5
 have B2:Below w.heap.size w (w2.alloc (.cells #[.int .u8 0] 5)):=keepT (keepT hbb hb2) hal
 have hs2:=hb2.size
 have HN:Hid ((w2.alloc (.cells #[.int .u8 0] 5)).heap[w2.heap.size]? = some (.cells #[.int .u8 0] 5 (0,0))):=heap_alloc_new w2 _
 clear h5 hb2 hal
 go_wp2_with fail
 try simp only [Exit.inBlock,Exit.then]
 have T:=put5_touch (w2.alloc (.cells #[.int .u8 0] 5)) (w.heap.size+1+1) (.int .i64 0) (.int .i64 1) (.bool false) (.slice (some ⟨w2.heap.size,0,none⟩) 1 1) (.slice none 0 0)
 have hR:Row (w2.alloc (.cells #[.int .u8 0] 5)) (some ⟨w2.heap.size,0,none⟩) 1 [0]:=by
  refine ⟨rfl,fun k hk=>⟨w2.heap.size,0,rfl,by simp,?_⟩,fun k=>?_⟩
  ·obtain rfl:k=0:=by omega
   exact (cell_of_row _ _ 0 _ 5 (0,0) HN.out).trans rfl
  ·match k with
   | 0=>decide
   | k+1=>simp
 have hZ:ItZ L (w.heap.size+3) 1 (w2.alloc (.cells #[.int .u8 0] 5)) (flgI false) (some ⟨w2.heap.size,0,none⟩) 1 1 none 0 0:=rowZ hR (by omega) 1 (by decide)
 exact bodyPost_ret (results_it rfl _ (w.heap.size+1+1) rfl _ _ _ _ _ _ (put5_heap H5.out _ _ _ _ _)) rfl ⟨⟨_,_,_,_,_,_,rfl,(hZ.touched T ⟨by omega,by omega⟩).mono (by omega)⟩,B2.trans (T.below (by omega) (by have:=B2.size; omega))⟩
theorem boolItem_1 (w:World)(L:Nat)(hL:L≤w.heap.size):Calls Tryz.prog 88 #[.agg #[],.agg #[.bool false,.int .i64 1,.slice none 0 0,.slice none 0 0,.slice none 0 0]] w fun e w'=>ItR L w.heap.size 1 (flgI true) e w'∧Below w.heap.size w w':=by
 obtain ⟨wa,hwa⟩:∃ wa,wa=(w.alloc (.cells #[] 128)).alloc (.cells #[.bool false,.int .i64 1,.slice none 0 0,.slice none 0 0,.slice none 0 0] 132):=⟨_,rfl⟩
 have hbA:Below w.heap.size w wa:=by rw [hwa]; exact ((Below.refl _ _).alloc (Nat.le_refl _) _).alloc (by simp) _
 have hsA:wa.heap.size=w.heap.size+1+1:=by rw [hwa]; simp
 obtain ⟨w1,hw1⟩:∃ w1,w1=box5 wa:=⟨_,rfl⟩
 have hbb:Below w.heap.size w w1:=by rw [hw1]; exact keepT hbA (box5_below wa)
 have hsz:w1.heap.size=w.heap.size+3:=by rw [hw1,box5_size,hsA]
 have HB:Hid (w1.heap[w.heap.size+1+1]? = some (.cells #[.int .i64 0,.int .i64 0,.bool false,.slice none 0 0,.slice none 0 0] 81 (0,0))):=by show _=_; rw [← hsA,hw1]; exact box5_new wa
 have HW:Hid (w1=((w.alloc (.cells #[] 128)).alloc (.cells #[.bool false,.int .i64 1,.slice none 0 0,.slice none 0 0,.slice none 0 0] 132)).alloc (.cells #[.int .i64 0,.int .i64 0,.bool false,.slice none 0 0,.slice none 0 0] 81)):=by show _=_; rw [hw1,hwa]; rfl
 clear hw1 hwa hbA hsA
 go_enter Tryz.func88,Tryz.ntmps88
 go_wp2_with fail
 rw [← HW.out]
 clear HW
 refine (boolTag_R w1).mono ?_
 rintro e w2 ⟨rfl,hb2⟩
 have hal:Below w2.heap.size w2 (w2.alloc (.cells #[.int .u8 255] 5)):=(Below.refl _ _).alloc (Nat.le_refl _) _
 have h5:=below_kept (below_kept HB.out hb2) hal
 obtain ⟨_,q0,q1,q2,q3,q4,q5,q6,q7,q8,q9⟩:=Box5.of h5
 have H5:Hid (_=_):=h5
 have B2:Below w.heap.size w (w2.alloc (.cells #[.int .u8 255] 5)):=keepT (keepT hbb hb2) hal
 have hs2:=hb2.size
 have HN:Hid ((w2.alloc (.cells #[.int .u8 255] 5)).heap[w2.heap.size]? = some (.cells #[.int .u8 255] 5 (0,0))):=heap_alloc_new w2 _
 clear h5 hb2 hal
 go_wp2_with fail
 try simp only [Exit.inBlock,Exit.then]
 have T:=put5_touch (w2.alloc (.cells #[.int .u8 255] 5)) (w.heap.size+1+1) (.int .i64 0) (.int .i64 1) (.bool false) (.slice (some ⟨w2.heap.size,0,none⟩) 1 1) (.slice none 0 0)
 have hR:Row (w2.alloc (.cells #[.int .u8 255] 5)) (some ⟨w2.heap.size,0,none⟩) 1 [255]:=by
  refine ⟨rfl,fun k hk=>⟨w2.heap.size,0,rfl,by simp,?_⟩,fun k=>?_⟩
  ·obtain rfl:k=0:=by omega
   exact (cell_of_row _ _ 0 _ 5 (0,0) HN.out).trans rfl
  ·match k with
   | 0=>decide
   | k+1=>simp
 have hZ:ItZ L (w.heap.size+3) 1 (w2.alloc (.cells #[.int .u8 255] 5)) (flgI true) (some ⟨w2.heap.size,0,none⟩) 1 1 none 0 0:=rowZ hR (by omega) 1 (by decide)
 exact bodyPost_ret (results_it rfl _ (w.heap.size+1+1) rfl _ _ _ _ _ _ (put5_heap H5.out _ _ _ _ _)) rfl ⟨⟨_,_,_,_,_,_,rfl,(hZ.touched T ⟨by omega,by omega⟩).mono (by omega)⟩,B2.trans (T.below (by omega) (by have:=B2.size; omega))⟩
theorem flagItem_R (b:Bool)(w:World)(L:Nat)(hL:L≤w.heap.size):Calls Tryz.prog 55 #[.bool b] w fun e w'=>ItR L w.heap.size 1 (flgI b) e w'∧Below w.heap.size w w':=by
 have hbx:=box5_below w
 have hsz:=box5_size w
 have HB5:Hid (_=_):=box5_new w
 cases b
 ·go_enter Tryz.func55,Tryz.ntmps55
  go_wp2_with fail
  refine (boolItem_0 (box5 w) L (by omega)).mono ?_
  rintro e w2 ⟨⟨ab,nb,cb,ak,nk,ck,rfl,hit⟩,hb2⟩
  have HIT:Hid (_):=hit
  have h5:=below_kept HB5.out hb2
  obtain ⟨_,q0,q1,q2,q3,q4,q5,q6,q7,q8,q9⟩:=Box5.of h5
  have H5:Hid (_=_):=h5
  have B2:Below w.heap.size w w2:=keepT hbx hb2
  clear h5 hb2 hit
  go_wp2_with fail
  try simp only [Exit.inBlock,Exit.then]
  have T:=put5_touch w2 w.heap.size (.int .i64 (flgI false).cls) (.int .i64 (flgI false).tag) (.bool (flgI false).cons) (.slice ab nb cb) (.slice ak nk ck)
  exact bodyPost_ret (results_it rfl _ w.heap.size rfl _ _ _ _ _ _ (put5_heap H5.out _ _ _ _ _)) rfl ⟨⟨_,_,_,_,_,_,rfl,HIT.out.put hL (by omega) _ _ _ _ _⟩,B2.trans (T.below (Nat.le_refl _) B2.size)⟩
 ·go_enter Tryz.func55,Tryz.ntmps55
  go_wp2_with fail
  refine (boolItem_1 (box5 w) L (by omega)).mono ?_
  rintro e w2 ⟨⟨ab,nb,cb,ak,nk,ck,rfl,hit⟩,hb2⟩
  have HIT:Hid (_):=hit
  have h5:=below_kept HB5.out hb2
  obtain ⟨_,q0,q1,q2,q3,q4,q5,q6,q7,q8,q9⟩:=Box5.of h5
  have H5:Hid (_=_):=h5
  have B2:Below w.heap.size w w2:=keepT hbx hb2
  clear h5 hb2 hit
  go_wp2_with fail
  try simp only [Exit.inBlock,Exit.then]
  have T:=put5_touch w2 w.heap.size (.int .i64 (flgI true).cls) (.int .i64 (flgI true).tag) (.bool (flgI true).cons) (.slice ab nb cb) (.slice ak nk ck)
  exact bodyPost_ret (results_it rfl _ w.heap.size rfl _ _ _ _ _ _ (put5_heap H5.out _ _ _ _ _)) rfl ⟨⟨_,_,_,_,_,_,rfl,HIT.out.put hL (by omega) _ _ _ _ _⟩,B2.trans (T.below (Nat.le_refl _) B2.size)⟩
theorem structItem_R {L R d n:Nat}{gr:Nat}{ks:List It}{w:World}(h:KidZ L R w gr d ks)(hn:ks.length=n) :
  Calls Tryz.prog 84 #[.slice (some ⟨gr,0,none⟩) n n] w fun e w'=>ItR L R d (strI ks) e w'∧Below w.heap.size w w':=by
 subst hn
 refine (structItem_agg (some ⟨gr,0,none⟩) ks.length ks.length w).mono ?_
 rintro e w1 ⟨rfl,hb⟩
 exact ⟨⟨_,_,_,_,_,_,rfl,(h.kept hb).itz 0 16⟩,hb⟩
theorem ownItem_R {L R d n:Nat}{gr:Nat}{ks:List It}{w:World}(tag:Int)(h:KidZ L R w gr d ks)(hn:ks.length=n) :
  Calls Tryz.prog 52 #[.int .i64 tag,.slice (some ⟨gr,0,none⟩) n n] w fun e w'=>ItR L R d (boxI tag ks) e w'∧Below w.heap.size w w':=by
 subst hn
 refine (ownItem_agg tag (some ⟨gr,0,none⟩) ks.length ks.length w).mono ?_
 rintro e w1 ⟨rfl,hb⟩
 exact ⟨⟨_,_,_,_,_,_,rfl,(h.kept hb).itz 1 tag⟩,hb⟩
end Go.Proofs.YtkdandggklpppaaGreatDoor
