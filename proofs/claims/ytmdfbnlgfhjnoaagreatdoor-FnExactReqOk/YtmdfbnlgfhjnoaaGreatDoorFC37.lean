import Derived.Test.YtmdfbnlgfhjnoaaGreatDoorFC36
set_option maxRecDepth 10000
set_option maxHeartbeats 8000000
set_option linter.unusedVariables false
namespace Go.Proofs.YtmdfbnlgfhjnoaaGreatDoor
open Go.RowKit Go.Sort
def ItR (L R d:Nat)(x:It)(e:Ending)(w':World):Prop:=∃ ab nb cb ak nk ck,e=.returned (.agg #[.int .i64 x.cls,.int .i64 x.tag,.bool x.cons,.slice ab nb cb,.slice ak nk ck])∧ItZ L R d w' x ab nb cb ak nk ck
theorem ItZ.le {L B d d':Nat}{w:World}{x:It}{ab:Option Addr}{nb cb:Nat}{ak:Option Addr}{nk ck:Nat}(h:ItZ L B d w x ab nb cb ak nk ck)(hd:d≤d'):ItZ L B d' w x ab nb cb ak nk ck:=by
 induction hd with
 | refl=>exact h
 | step _ ih=>exact ih.more
theorem rowZ {L B:Nat}{w:World}{g k n c:Nat}{bs:List Int}(hr:Row w (some ⟨g,k,none⟩) n bs)(hB:B≤g)(t:Int)(hn:n≤9223372036854775807):ItZ L B 1 w (.mk 0 t false bs []) (some ⟨g,k,none⟩) n c none 0 0:=by
 refine ⟨⟨⟨hr,fun x hx h0=>?_⟩,fun e=>(by cases e),hn,KidsI.none 0 _ _ _⟩⟩
 obtain ⟨b,off,ha,hlt,_⟩:=hr.get 0 h0
 injection hx with hx
 injection ha with ha
 injection ha with ha _
 rw [← hx]
 refine ⟨.inr hB,?_⟩
 show g<_
 rw [ha]
 exact hlt
theorem Own.itzB {L B:Nat}{w:World}{a:Option Addr}{n c:Nat}{bs:List Int}(h:Own B w a n c bs)(t:Int)(hn:n≤9223372036854775807):ItZ L B 1 w (.mk 0 t false bs []) a n c none 0 0:=⟨(h.itv1 t hn).mono (fun b hs=>⟨.inr hs.1,hs.2⟩)⟩
theorem kidsI_n1 {d:Nat}{S:Nat→Prop}{X:World}{x1:It}{a1:Option Addr}{n1 c1:Nat}{k1:Option Addr}{m1 e1:Nat}(h1:ItV d S X x1 a1 n1 c1 k1 m1 e1){T:Nat→Prop}(hs:∀ b,S b→T b)(hT:T X.heap.size){W:World}{t:Nat}(hW:W=X.alloc (.cells #[.int .i64 x1.cls,.int .i64 x1.tag,.bool x1.cons,.slice a1 n1 c1,.slice k1 m1 e1] t)):KidsI (d+1) T W (some ⟨X.heap.size,0,none⟩) 1 [x1]:=by
 subst hW
 have hb:Below X.heap.size X (X.alloc (.cells #[.int .i64 x1.cls,.int .i64 x1.tag,.bool x1.cons,.slice a1 n1 c1,.slice k1 m1 e1] t)):=(Below.refl _ _).alloc (Nat.le_refl _) _
 have hc:=fun j=>cell_of_row _ X.heap.size j _ t (0,0) (heap_alloc_new X (.cells #[.int .i64 x1.cls,.int .i64 x1.tag,.bool x1.cons,.slice a1 n1 c1,.slice k1 m1 e1] t))
 have g1:=(h1.kept hb).mono hs
 refine ⟨rfl,by decide,fun k hk=>⟨X.heap.size,0,rfl,by simp,hT,?_⟩⟩
 rcases (show k=0 by omega) with rfl
 ·exact ⟨a1,n1,c1,k1,m1,e1,(hc 0).trans rfl,(hc 1).trans rfl,(hc 2).trans rfl,(hc 3).trans rfl,(hc 4).trans rfl,g1.row,g1.nil,g1.max,g1.kids⟩
theorem kidZ_n1 {L:Nat}{B d:Nat}{X:World}{x1:It}{a1:Option Addr}{n1 c1:Nat}{k1:Option Addr}{m1 e1:Nat}{t:Nat}(hB:B≤X.heap.size)(h1:ItZ L B d X x1 a1 n1 c1 k1 m1 e1):KidZ L B (X.alloc (.cells #[.int .i64 x1.cls,.int .i64 x1.tag,.bool x1.cons,.slice a1 n1 c1,.slice k1 m1 e1] t)) X.heap.size (d+1) [x1]:=by
 refine ⟨fun b=>(b<L∨B≤b)∧b<X.heap.size+1,kidsI_n1 (S:=fun b=>(b<L∨B≤b)∧b<X.heap.size) h1.it (fun b hb=>⟨hb.1,by have:=hb.2; omega⟩) ⟨.inr hB,by omega⟩ rfl,fun b hb=>⟨hb.1,?_⟩⟩
 have s:(X.alloc (.cells #[.int .i64 x1.cls,.int .i64 x1.tag,.bool x1.cons,.slice a1 n1 c1,.slice k1 m1 e1] t)).heap.size=X.heap.size+1:=by simp
 have:=hb.2
 omega
theorem kidZ_n3 {L:Nat}{B d:Nat}{X:World}{x1 x2 x3:It}{a1:Option Addr}{n1 c1:Nat}{k1:Option Addr}{m1 e1:Nat}{a2:Option Addr}{n2 c2:Nat}{k2:Option Addr}{m2 e2:Nat}{a3:Option Addr}{n3 c3:Nat}{k3:Option Addr}{m3 e3:Nat}{t:Nat}(hB:B≤X.heap.size)(h1:ItZ L B d X x1 a1 n1 c1 k1 m1 e1)(h2:ItZ L B d X x2 a2 n2 c2 k2 m2 e2)(h3:ItZ L B d X x3 a3 n3 c3 k3 m3 e3):KidZ L B (X.alloc (.cells #[.int .i64 x1.cls,.int .i64 x1.tag,.bool x1.cons,.slice a1 n1 c1,.slice k1 m1 e1,.int .i64 x2.cls,.int .i64 x2.tag,.bool x2.cons,.slice a2 n2 c2,.slice k2 m2 e2,.int .i64 x3.cls,.int .i64 x3.tag,.bool x3.cons,.slice a3 n3 c3,.slice k3 m3 e3] t)) X.heap.size (d+1) [x1,x2,x3]:=by
 refine ⟨fun b=>(b<L∨B≤b)∧b<X.heap.size+1,kidsI_n3 (S:=fun b=>(b<L∨B≤b)∧b<X.heap.size) h1.it h2.it h3.it (fun b hb=>⟨hb.1,by have:=hb.2; omega⟩) ⟨.inr hB,by omega⟩ rfl,fun b hb=>⟨hb.1,?_⟩⟩
 have s:(X.alloc (.cells #[.int .i64 x1.cls,.int .i64 x1.tag,.bool x1.cons,.slice a1 n1 c1,.slice k1 m1 e1,.int .i64 x2.cls,.int .i64 x2.tag,.bool x2.cons,.slice a2 n2 c2,.slice k2 m2 e2,.int .i64 x3.cls,.int .i64 x3.tag,.bool x3.cons,.slice a3 n3 c3,.slice k3 m3 e3] t)).heap.size=X.heap.size+1:=by simp
 have:=hb.2
 omega
theorem kidsI_n5 {d:Nat}{S:Nat→Prop}{X:World}{x1 x2 x3 x4 x5:It}{a1:Option Addr}{n1 c1:Nat}{k1:Option Addr}{m1 e1:Nat}{a2:Option Addr}{n2 c2:Nat}{k2:Option Addr}{m2 e2:Nat}{a3:Option Addr}{n3 c3:Nat}{k3:Option Addr}{m3 e3:Nat}{a4:Option Addr}{n4 c4:Nat}{k4:Option Addr}{m4 e4:Nat}{a5:Option Addr}{n5 c5:Nat}{k5:Option Addr}{m5 e5:Nat}(h1:ItV d S X x1 a1 n1 c1 k1 m1 e1)(h2:ItV d S X x2 a2 n2 c2 k2 m2 e2)(h3:ItV d S X x3 a3 n3 c3 k3 m3 e3)(h4:ItV d S X x4 a4 n4 c4 k4 m4 e4)(h5:ItV d S X x5 a5 n5 c5 k5 m5 e5){T:Nat→Prop}(hs:∀ b,S b→T b)(hT:T X.heap.size){W:World}{t:Nat}(hW:W=X.alloc (.cells #[.int .i64 x1.cls,.int .i64 x1.tag,.bool x1.cons,.slice a1 n1 c1,.slice k1 m1 e1,.int .i64 x2.cls,.int .i64 x2.tag,.bool x2.cons,.slice a2 n2 c2,.slice k2 m2 e2,.int .i64 x3.cls,.int .i64 x3.tag,.bool x3.cons,.slice a3 n3 c3,.slice k3 m3 e3,.int .i64 x4.cls,.int .i64 x4.tag,.bool x4.cons,.slice a4 n4 c4,.slice k4 m4 e4,.int .i64 x5.cls,.int .i64 x5.tag,.bool x5.cons,.slice a5 n5 c5,.slice k5 m5 e5] t)):KidsI (d+1) T W (some ⟨X.heap.size,0,none⟩) 5 [x1,x2,x3,x4,x5]:=by
 subst hW
 have hb:Below X.heap.size X (X.alloc (.cells #[.int .i64 x1.cls,.int .i64 x1.tag,.bool x1.cons,.slice a1 n1 c1,.slice k1 m1 e1,.int .i64 x2.cls,.int .i64 x2.tag,.bool x2.cons,.slice a2 n2 c2,.slice k2 m2 e2,.int .i64 x3.cls,.int .i64 x3.tag,.bool x3.cons,.slice a3 n3 c3,.slice k3 m3 e3,.int .i64 x4.cls,.int .i64 x4.tag,.bool x4.cons,.slice a4 n4 c4,.slice k4 m4 e4,.int .i64 x5.cls,.int .i64 x5.tag,.bool x5.cons,.slice a5 n5 c5,.slice k5 m5 e5] t)):=(Below.refl _ _).alloc (Nat.le_refl _) _
 have hc:=fun j=>cell_of_row _ X.heap.size j _ t (0,0) (heap_alloc_new X (.cells #[.int .i64 x1.cls,.int .i64 x1.tag,.bool x1.cons,.slice a1 n1 c1,.slice k1 m1 e1,.int .i64 x2.cls,.int .i64 x2.tag,.bool x2.cons,.slice a2 n2 c2,.slice k2 m2 e2,.int .i64 x3.cls,.int .i64 x3.tag,.bool x3.cons,.slice a3 n3 c3,.slice k3 m3 e3,.int .i64 x4.cls,.int .i64 x4.tag,.bool x4.cons,.slice a4 n4 c4,.slice k4 m4 e4,.int .i64 x5.cls,.int .i64 x5.tag,.bool x5.cons,.slice a5 n5 c5,.slice k5 m5 e5] t))
 have g1:=(h1.kept hb).mono hs
 have g2:=(h2.kept hb).mono hs
 have g3:=(h3.kept hb).mono hs
 have g4:=(h4.kept hb).mono hs
 have g5:=(h5.kept hb).mono hs
 refine ⟨rfl,by decide,fun k hk=>⟨X.heap.size,0,rfl,by simp,hT,?_⟩⟩
 rcases (show k=0∨k=1∨k=2∨k=3∨k=4 by omega) with rfl | rfl | rfl | rfl | rfl
 ·exact ⟨a1,n1,c1,k1,m1,e1,(hc 0).trans rfl,(hc 1).trans rfl,(hc 2).trans rfl,(hc 3).trans rfl,(hc 4).trans rfl,g1.row,g1.nil,g1.max,g1.kids⟩
 ·exact ⟨a2,n2,c2,k2,m2,e2,(hc 5).trans rfl,(hc 6).trans rfl,(hc 7).trans rfl,(hc 8).trans rfl,(hc 9).trans rfl,g2.row,g2.nil,g2.max,g2.kids⟩
 ·exact ⟨a3,n3,c3,k3,m3,e3,(hc 10).trans rfl,(hc 11).trans rfl,(hc 12).trans rfl,(hc 13).trans rfl,(hc 14).trans rfl,g3.row,g3.nil,g3.max,g3.kids⟩
 ·exact ⟨a4,n4,c4,k4,m4,e4,(hc 15).trans rfl,(hc 16).trans rfl,(hc 17).trans rfl,(hc 18).trans rfl,(hc 19).trans rfl,g4.row,g4.nil,g4.max,g4.kids⟩
 ·exact ⟨a5,n5,c5,k5,m5,e5,(hc 20).trans rfl,(hc 21).trans rfl,(hc 22).trans rfl,(hc 23).trans rfl,(hc 24).trans rfl,g5.row,g5.nil,g5.max,g5.kids⟩
theorem kidZ_n5 {L:Nat}{B d:Nat}{X:World}{x1 x2 x3 x4 x5:It}{a1:Option Addr}{n1 c1:Nat}{k1:Option Addr}{m1 e1:Nat}{a2:Option Addr}{n2 c2:Nat}{k2:Option Addr}{m2 e2:Nat}{a3:Option Addr}{n3 c3:Nat}{k3:Option Addr}{m3 e3:Nat}{a4:Option Addr}{n4 c4:Nat}{k4:Option Addr}{m4 e4:Nat}{a5:Option Addr}{n5 c5:Nat}{k5:Option Addr}{m5 e5:Nat}{t:Nat}(hB:B≤X.heap.size)(h1:ItZ L B d X x1 a1 n1 c1 k1 m1 e1)(h2:ItZ L B d X x2 a2 n2 c2 k2 m2 e2)(h3:ItZ L B d X x3 a3 n3 c3 k3 m3 e3)(h4:ItZ L B d X x4 a4 n4 c4 k4 m4 e4)(h5:ItZ L B d X x5 a5 n5 c5 k5 m5 e5):KidZ L B (X.alloc (.cells #[.int .i64 x1.cls,.int .i64 x1.tag,.bool x1.cons,.slice a1 n1 c1,.slice k1 m1 e1,.int .i64 x2.cls,.int .i64 x2.tag,.bool x2.cons,.slice a2 n2 c2,.slice k2 m2 e2,.int .i64 x3.cls,.int .i64 x3.tag,.bool x3.cons,.slice a3 n3 c3,.slice k3 m3 e3,.int .i64 x4.cls,.int .i64 x4.tag,.bool x4.cons,.slice a4 n4 c4,.slice k4 m4 e4,.int .i64 x5.cls,.int .i64 x5.tag,.bool x5.cons,.slice a5 n5 c5,.slice k5 m5 e5] t)) X.heap.size (d+1) [x1,x2,x3,x4,x5]:=by
 refine ⟨fun b=>(b<L∨B≤b)∧b<X.heap.size+1,kidsI_n5 (S:=fun b=>(b<L∨B≤b)∧b<X.heap.size) h1.it h2.it h3.it h4.it h5.it (fun b hb=>⟨hb.1,by have:=hb.2; omega⟩) ⟨.inr hB,by omega⟩ rfl,fun b hb=>⟨hb.1,?_⟩⟩
 have s:(X.alloc (.cells #[.int .i64 x1.cls,.int .i64 x1.tag,.bool x1.cons,.slice a1 n1 c1,.slice k1 m1 e1,.int .i64 x2.cls,.int .i64 x2.tag,.bool x2.cons,.slice a2 n2 c2,.slice k2 m2 e2,.int .i64 x3.cls,.int .i64 x3.tag,.bool x3.cons,.slice a3 n3 c3,.slice k3 m3 e3,.int .i64 x4.cls,.int .i64 x4.tag,.bool x4.cons,.slice a4 n4 c4,.slice k4 m4 e4,.int .i64 x5.cls,.int .i64 x5.tag,.bool x5.cons,.slice a5 n5 c5,.slice k5 m5 e5] t)).heap.size=X.heap.size+1:=by simp
 have:=hb.2
 omega
def parI (x:PT):It:=strI [numI x.attr,bytI (bytesOf x.val)]
def namI (xs:List PT):It:=strI [lstI (xs.map parI)]
def gneI (x:GE):It:=strI [numI x.g.kind,bytI (bytesOf x.g.text),numI x.g.addr,numI x.g.bits,namI x.parts]
def kyI (p:Int × Int × Int):It:=strI [numI p.1,bytI (eightI p.2.1),numI p.2.2]
theorem numberItem_R (n:Int)(L:Nat)(w:World)(h:W64 n) :
  Calls Tryz.prog 101 #[.int .i64 n] w fun e w'=>ItR L w.heap.size 1 (numI n) e w'∧Below w.heap.size w w':=by
 refine (numberItem_agg n w h.1 h.2).mono ?_
 rintro e w1 ⟨g,k,rfl,hge,hr,hb⟩
 exact ⟨⟨_,_,_,_,_,_,rfl,rowZ hr hge 2 (by have:=wsz_bd n; omega)⟩,hb⟩
theorem digestItem_R (v:Int)(L:Nat)(w:World)(h:U64 v) :
  Calls Tryz.prog 155 #[.int .u64 v] w fun e w'=>ItR L w.heap.size 1 (bytI (eightI v)) e w'∧Below w.heap.size w w':=by
 refine (digestItem_agg v w h.1 h.2).mono ?_
 rintro e w1 ⟨g,rfl,hge,hr,hb⟩
 exact ⟨⟨_,_,_,_,_,_,rfl,rowZ hr hge 4 (by decide)⟩,hb⟩
theorem bytesItem_aggC (a:Option Addr)(n c:Nat)(bs:List Int)(w:World) :
  Calls Tryz.prog 60 #[.slice a n c] w fun e w'=>e=.returned (.agg #[.int .i64 0,.int .i64 4,.bool false,.slice a n c,.slice none 0 0])∧Below w.heap.size w w':=bytesItem_any a n c bs w
theorem ItZ.put {L d:Nat}{w w2:World}{x:It}{ab:Option Addr}{nb cb:Nat}{ak:Option Addr}{nk ck:Nat}{B:Nat}(hZ:ItZ L B d w2 x ab nb cb ak nk ck)(hL:L≤w.heap.size)(hB:w.heap.size<B)(u0 u1 u2 u3 u4:Value):ItZ L w.heap.size d (put5I w2 w.heap.size u0 u1 u2 u3 u4) x ab nb cb ak nk ck:=(hZ.touched (put5_touch w2 w.heap.size u0 u1 u2 u3 u4) ⟨hL,hB⟩).mono (Nat.le_of_lt hB)
theorem textItem_R (s:ByteArray)(L:Nat)(w:World)(hs:s.size≤9223372036854775807)(hL:L≤w.heap.size) :
  Calls Tryz.prog 158 #[.string s] w fun e w'=>ItR L w.heap.size 1 (bytI (bytesOf s)) e w'∧Below w.heap.size w w':=by
 have hbx:=box5_below w
 have hsz:=box5_size w
 have HB5:Hid (_=_):=box5_new w
 obtain ⟨cp,W2,hcv,hrow,hb3⟩:=conv_str (w.alloc (.cells #[.int .i64 0,.int .i64 0,.bool false,.slice none 0 0,.slice none 0 0] 75)) s
 have hb3':Below (box5 w).heap.size (box5 w) W2:=hb3
 have HR:Hid (Row W2 (some ⟨w.heap.size+1,0,none⟩) s.size (bytesOf s)):=by
  have h9:Row W2 (some ⟨(box5 w).heap.size,0,none⟩) s.size (bytesOf s):=hrow
  rw [hsz] at h9
  exact h9
 clear hrow hb3
 go_enter Tryz.func158,Tryz.ntmps158
 go_wp2_with fail
 refine (bytesItem_aggC (some ⟨w.heap.size+1,0,none⟩) s.size cp (bytesOf s) W2).mono ?_
 rintro e w2 ⟨rfl,hb2⟩
 have hb23:Below (box5 w).heap.size (box5 w) w2:=keepT hb3' hb2
 have HR2:Hid (Row w2 (some ⟨w.heap.size+1,0,none⟩) s.size (bytesOf s)):=HR.out.kept hb2
 have h5:=below_kept HB5.out hb23
 obtain ⟨_,q0,q1,q2,q3,q4,q5,q6,q7,q8,q9⟩:=Box5.of h5
 have H5:Hid (_=_):=h5
 have B2:Below w.heap.size w w2:=keepT hbx hb23
 clear h5 hb2 hb23 hcv hb3'
 go_wp2_with fail
 try simp only [Exit.inBlock,Exit.then]
 have T:=put5_touch w2 w.heap.size (.int .i64 0) (.int .i64 4) (.bool false) (.slice (some ⟨w.heap.size+1,0,none⟩) s.size cp) (.slice none 0 0)
 have hZ:ItZ L (w.heap.size+1) 1 w2 (bytI (bytesOf s)) (some ⟨w.heap.size+1,0,none⟩) s.size cp none 0 0:=rowZ HR2.out (Nat.le_refl _) 4 hs
 exact bodyPost_ret (results_it rfl _ w.heap.size rfl _ _ _ _ _ _ (put5_heap H5.out _ _ _ _ _)) rfl ⟨⟨_,_,_,_,_,_,rfl,hZ.put hL (by omega) _ _ _ _ _⟩,B2.trans (T.below (Nat.le_refl _) B2.size)⟩
theorem structItem_R {L R d n:Nat}{gr:Nat}{ks:List It}{w:World}(h:KidZ L R w gr d ks)(hn:ks.length=n) :
  Calls Tryz.prog 152 #[.slice (some ⟨gr,0,none⟩) n n] w fun e w'=>ItR L R d (strI ks) e w'∧Below w.heap.size w w':=by
 subst hn
 refine (structItem_agg (some ⟨gr,0,none⟩) ks.length ks.length w).mono ?_
 rintro e w1 ⟨rfl,hb⟩
 exact ⟨⟨_,_,_,_,_,_,rfl,(h.kept hb).itz 0 16⟩,hb⟩
theorem ownItem_R {L R d n:Nat}{gr:Nat}{ks:List It}{w:World}(tag:Int)(h:KidZ L R w gr d ks)(hn:ks.length=n) :
  Calls Tryz.prog 59 #[.int .i64 tag,.slice (some ⟨gr,0,none⟩) n n] w fun e w'=>ItR L R d (boxI tag ks) e w'∧Below w.heap.size w w':=by
 subst hn
 refine (ownItem_agg tag (some ⟨gr,0,none⟩) ks.length ks.length w).mono ?_
 rintro e w1 ⟨rfl,hb⟩
 exact ⟨⟨_,_,_,_,_,_,rfl,(h.kept hb).itz 1 tag⟩,hb⟩
end Go.Proofs.YtmdfbnlgfhjnoaaGreatDoor
