import Derived.ArgAppend
import Derived.Test.YtmdfbnlgfhjnoaaGreatDoorFD31
import Derived.Test.YtmdfbnlgfhjnoaaGreatDoorFD34
set_option maxRecDepth 10000
set_option maxHeartbeats 8000000
set_option linter.unusedVariables false
namespace Go.Proofs.YtmdfbnlgfhjnoaaGreatDoor
open Go.RowKit Go.Sort
theorem opw_buildSliceT {P:Program}{Q:Exit→Act→World→Prop}{o:Oper}{a:Act}{w:World}{K:Act→World→Prop}(t:TypeId)(n:Nat)(parts:Array (Nat × Operand))(ho:o.op=.buildSlice t n parts)(vs:Array (Nat × Value))(hvs:(parts.map fun p=>(p.1,a.eval p.2))=vs)(v:Value)(w':World)
  (hr:(Instr.buildSlice t n vs).run P w=.ok v w') (h:K (a.put o.dst v) w'):o.wp P a w K Q:=by
 refine opw_value v ?_ h
 have hvs':(parts.map fun x:Nat × Operand=>match x with | (i,x)=>(i,a.eval x))=vs:=hvs
 unfold execOp
 simp only [ho]
 rw [hvs']
 simp [hr]
theorem Row.atG {w:World}{g k n:Nat}{bs:List Int}(h:Row w (some ⟨g,k,none⟩) n bs):RowI (fun b=>b=g) w (some ⟨g,k,none⟩) n bs:=⟨h,fun x hx _=>by injection hx with hx; rw [← hx]⟩
theorem structItem_agg (a:Option Addr)(n c:Nat)(w:World) :
  Calls Tryz.prog 152 #[.slice a n c] w fun e w'=>e=.returned (.agg #[.int .i64 0,.int .i64 16,.bool true,.slice none 0 0,.slice a n c])∧Below w.heap.size w w':=by
 go_enter Tryz.func152,Tryz.ntmps152
 go_wp2_with fail
 try simp only [Exit.inBlock,Exit.then]
 exact bodyPost_ret (results_it rfl _ w.heap.size rfl _ _ _ _ _ _ (heap_alloc_new w _)) rfl ⟨rfl,(Below.refl _ _).alloc (Nat.le_refl _) _⟩
theorem Tryz.infoIt:(Tryz.prog.info? 75).map (fun i=>(i.zero,i.size,i.bytes))=some (some (.agg #[.int .i64 0,.int .i64 0,.bool false,.slice none 0 0,.slice none 0 0]),5,72):=by kernel_rfl
def RSpec.free2 (S:RSpec)(i d:Nat):Bool:=(List.range S.n).all fun k=>k == i || S.slot k != d || (S.pre k).contains i || (S.kill k).contains i
theorem RSpec.free2_of {S:RSpec}{i d:Nat}(h:S.free2 i d=true){k:Nat}(hk:k<S.n)(hne:k≠i)(hs:S.slot k=d):i∈S.pre k∨i∈S.kill k:=by
 have:=List.all_eq_true.1 h k (List.mem_range.2 hk)
 simpa [hne,hs] using this
theorem RI.turn {S:RSpec}{D:List Nat}{B:Nat}{w0:World}{a0:Act}{l:Nat→Bool}{a:Act}{w:World}(h:RI S D B w0 a0 l a w)(i d:Nat){v:Value}{w':World}(hpre:∀ j∈S.pre i,l j=true)
  (hd:D.contains d=true) (hs:d<a0.tmps.size) (hsl:S.slot i=d) (hli:l i=false) (hne:S.free2 i d=true) (hb:Below B w0 w')
  (hst:∀ k,k<S.n→k≠i→l k=true→(∀ j∈S.kill k,upd l i j=false)→∀ u,S.fact k u w→S.fact k u w') (hf:S.fact i v w'):RI S D B w0 a0 (upd l i) (a.put (some d) v) w':=by
 refine ⟨h.fr.put (List.contains_iff_mem.1 hd) v,hb,fun k hk=>upd_mono (h.vt k hk),fun k hk hl j hj=>?_,fun k hk hl hkill=>?_⟩
 ·by_cases e:k=i
  ·subst e
   exact upd_mono (hpre j hj)
  ·rw [upd_ne e] at hl
   exact upd_mono (h.cl k hk hl j hj)
 ·by_cases e:k=i
  ·subst e
   rw [hsl,aT_put_eq (by rw [h.fr.size]; exact hs)]
   exact hf
  ·rw [upd_ne e] at hl
   have hsk:S.slot k≠d:=fun e2=>by
    rcases S.free2_of hne hk e e2 with h1 | h1
    ·have:=h.cl k hk hl i h1
     rw [hli] at this
     cases this
    ·have:=hkill i h1
     rw [upd_same] at this
     cases this
   rw [aT_put_ne (Ne.symm hsk)]
   exact hst k hk e hl hkill _ (h.fact k hk hl (fun j hj=>of_upd (hkill j hj)))
theorem RI.putp {S:RSpec}{D:List Nat}{B:Nat}{w0:World}{a0:Act}{l:Nat→Bool}{a:Act}{w:World}(h:RI S D B w0 a0 l a w)(i d:Nat){v:Value}{w':World}(hpre:∀ j∈S.pre i,l j=true)
  (hd:D.contains d=true) (hs:d<a0.tmps.size) (hsl:S.slot i=d) (hli:l i=false) (hne:S.free2 i d=true) (hB:B≤w0.heap.size)
  (hst:∀ k,k<S.n→StB (S.fact k)) (hb:Below w.heap.size w w') (hf:S.fact i v w'):RI S D B w0 a0 (upd l i) (a.put (some d) v) w' :=
 h.turn i d hpre hd hs hsl hli hne (h.bel.trans (hb.mono (Nat.le_trans hB h.bel.size))) (fun k hk _ _ _ u hu=>hst k hk _ _ _ hu hb) hf
theorem unT {b:Bool}(h:b=true→False):b=false:=by
 cases b with
 | false=>rfl
 | true=>exact (h rfl).elim
theorem opw_indexY {P:Program}{Q:Exit→Act→World→Prop}{o:Oper}{a:Act}{w:World}{K:Act→World→Prop}(t:TypeId)(x y:Nat)(ho:o.op=.indexAddr t (.tmp x) (.tmp y))(p q:Value)(hx:aT a x=p)(hy:aT a y=q)(v:Value)(hr:(Instr.indexAt t p q).run P w=.ok v w)(h:K (a.put o.dst v) w):o.wp P a w K Q:=by
 refine opw_value v ?_ h
 have hx':a.eval (.tmp x)=p:=hx
 have hy':a.eval (.tmp y)=q:=hy
 unfold execOp
 simp [ho,hx',hy',hr]
theorem l2BoxC_agg (cls tag:Int)(a:Option Addr)(n c:Nat)(w:World) :
  Calls Tryz.prog 84 #[.int .i64 cls,.int .i64 tag,.slice a n c] w fun e w'=>e=.returned (.agg #[.int .i64 cls,.int .i64 tag,.bool true,.slice none 0 0,.slice a n c])∧Below w.heap.size w w':=by
 go_enter Tryz.func84,Tryz.ntmps84
 go_wp2_with fail
 try simp only [Exit.inBlock,Exit.then]
 exact bodyPost_ret (results_it rfl _ w.heap.size rfl _ _ _ _ _ _ (heap_alloc_new w _)) rfl ⟨rfl,(Below.refl _ _).alloc (Nat.le_refl _) _⟩
theorem l9Struct_agg (a:Option Addr)(n c:Nat)(w:World) :
  Calls Tryz.prog 80 #[.slice a n c] w fun e w'=>e=.returned (.agg #[.int .i64 0,.int .i64 16,.bool true,.slice none 0 0,.slice a n c])∧Below w.heap.size w w':=by
 have hbx:=box5_below w
 have HB5:Hid (_=_):=box5_new w
 go_enter Tryz.func80,Tryz.ntmps80
 go_wp2_with fail
 refine (l2BoxC_agg 0 16 a n c (box5 w)).mono ?_
 rintro e w2 ⟨rfl,hb2⟩
 have h5:=below_kept HB5.out hb2
 obtain ⟨_,q0,q1,q2,q3,q4,q5,q6,q7,q8,q9⟩:=Box5.of h5
 have H5:Hid (_=_):=h5
 have B2:Below w.heap.size w w2:=keepT hbx hb2
 clear h5 hb2
 go_wp2_with fail
 try simp only [Exit.inBlock,Exit.then]
 have T:=put5_touch w2 w.heap.size (.int .i64 0) (.int .i64 16) (.bool true) (.slice none 0 0) (.slice a n c)
 exact bodyPost_ret (results_it rfl _ w.heap.size rfl _ _ _ _ _ _ (put5_heap H5.out _ _ _ _ _)) rfl ⟨rfl,B2.trans (T.below (Nat.le_refl _) B2.size)⟩
theorem l9List_agg (a:Option Addr)(n c:Nat)(w:World) :
  Calls Tryz.prog 89 #[.slice a n c] w fun e w'=>e=.returned (.agg #[.int .i64 0,.int .i64 17,.bool true,.slice none 0 0,.slice a n c])∧Below w.heap.size w w':=by
 have hbx:=box5_below w
 have HB5:Hid (_=_):=box5_new w
 go_enter Tryz.func89,Tryz.ntmps89
 go_wp2_with fail
 refine (l2BoxC_agg 0 17 a n c (box5 w)).mono ?_
 rintro e w2 ⟨rfl,hb2⟩
 have h5:=below_kept HB5.out hb2
 obtain ⟨_,q0,q1,q2,q3,q4,q5,q6,q7,q8,q9⟩:=Box5.of h5
 have H5:Hid (_=_):=h5
 have B2:Below w.heap.size w w2:=keepT hbx hb2
 clear h5 hb2
 go_wp2_with fail
 try simp only [Exit.inBlock,Exit.then]
 have T:=put5_touch w2 w.heap.size (.int .i64 0) (.int .i64 17) (.bool true) (.slice none 0 0) (.slice a n c)
 exact bodyPost_ret (results_it rfl _ w.heap.size rfl _ _ _ _ _ _ (put5_heap H5.out _ _ _ _ _)) rfl ⟨rfl,B2.trans (T.below (Nat.le_refl _) B2.size)⟩
theorem Own.itv1 {B:Nat}{w:World}{a:Option Addr}{n c:Nat}{bs:List Int}(h:Own B w a n c bs)(t:Int)(hn:n≤9223372036854775807):ItV 1 (fun b=>B≤b∧b<w.heap.size) w (.mk 0 t false bs []) a n c none 0 0:=⟨h.toI,h.nil,hn,KidsI.none 0 _ _ _⟩
theorem kidsI_n2 {d:Nat}{S:Nat→Prop}{X:World}{x1 x2:It}{a1:Option Addr}{n1 c1:Nat}{k1:Option Addr}{m1 e1:Nat}{a2:Option Addr}{n2 c2:Nat}{k2:Option Addr}{m2 e2:Nat}(h1:ItV d S X x1 a1 n1 c1 k1 m1 e1)(h2:ItV d S X x2 a2 n2 c2 k2 m2 e2){T:Nat→Prop}(hs:∀ b,S b→T b)(hT:T X.heap.size){W:World}{t:Nat}(hW:W=X.alloc (.cells #[.int .i64 x1.cls,.int .i64 x1.tag,.bool x1.cons,.slice a1 n1 c1,.slice k1 m1 e1,.int .i64 x2.cls,.int .i64 x2.tag,.bool x2.cons,.slice a2 n2 c2,.slice k2 m2 e2] t)):KidsI (d+1) T W (some ⟨X.heap.size,0,none⟩) 2 [x1,x2]:=by
 subst hW
 have hb:Below X.heap.size X (X.alloc (.cells #[.int .i64 x1.cls,.int .i64 x1.tag,.bool x1.cons,.slice a1 n1 c1,.slice k1 m1 e1,.int .i64 x2.cls,.int .i64 x2.tag,.bool x2.cons,.slice a2 n2 c2,.slice k2 m2 e2] t)):=(Below.refl _ _).alloc (Nat.le_refl _) _
 have hc:=fun j=>cell_of_row _ X.heap.size j _ t (0,0) (heap_alloc_new X (.cells #[.int .i64 x1.cls,.int .i64 x1.tag,.bool x1.cons,.slice a1 n1 c1,.slice k1 m1 e1,.int .i64 x2.cls,.int .i64 x2.tag,.bool x2.cons,.slice a2 n2 c2,.slice k2 m2 e2] t))
 have g1:=(h1.kept hb).mono hs
 have g2:=(h2.kept hb).mono hs
 refine ⟨rfl,by decide,fun k hk=>⟨X.heap.size,0,rfl,by simp,hT,?_⟩⟩
 rcases (show k=0∨k=1 by omega) with rfl | rfl
 ·exact ⟨a1,n1,c1,k1,m1,e1,(hc 0).trans rfl,(hc 1).trans rfl,(hc 2).trans rfl,(hc 3).trans rfl,(hc 4).trans rfl,g1.row,g1.nil,g1.max,g1.kids⟩
 ·exact ⟨a2,n2,c2,k2,m2,e2,(hc 5).trans rfl,(hc 6).trans rfl,(hc 7).trans rfl,(hc 8).trans rfl,(hc 9).trans rfl,g2.row,g2.nil,g2.max,g2.kids⟩
theorem kidsI_n3 {d:Nat}{S:Nat→Prop}{X:World}{x1 x2 x3:It}{a1:Option Addr}{n1 c1:Nat}{k1:Option Addr}{m1 e1:Nat}{a2:Option Addr}{n2 c2:Nat}{k2:Option Addr}{m2 e2:Nat}{a3:Option Addr}{n3 c3:Nat}{k3:Option Addr}{m3 e3:Nat}(h1:ItV d S X x1 a1 n1 c1 k1 m1 e1)(h2:ItV d S X x2 a2 n2 c2 k2 m2 e2)(h3:ItV d S X x3 a3 n3 c3 k3 m3 e3){T:Nat→Prop}(hs:∀ b,S b→T b)(hT:T X.heap.size){W:World}{t:Nat}(hW:W=X.alloc (.cells #[.int .i64 x1.cls,.int .i64 x1.tag,.bool x1.cons,.slice a1 n1 c1,.slice k1 m1 e1,.int .i64 x2.cls,.int .i64 x2.tag,.bool x2.cons,.slice a2 n2 c2,.slice k2 m2 e2,.int .i64 x3.cls,.int .i64 x3.tag,.bool x3.cons,.slice a3 n3 c3,.slice k3 m3 e3] t)):KidsI (d+1) T W (some ⟨X.heap.size,0,none⟩) 3 [x1,x2,x3]:=by
 subst hW
 have hb:Below X.heap.size X (X.alloc (.cells #[.int .i64 x1.cls,.int .i64 x1.tag,.bool x1.cons,.slice a1 n1 c1,.slice k1 m1 e1,.int .i64 x2.cls,.int .i64 x2.tag,.bool x2.cons,.slice a2 n2 c2,.slice k2 m2 e2,.int .i64 x3.cls,.int .i64 x3.tag,.bool x3.cons,.slice a3 n3 c3,.slice k3 m3 e3] t)):=(Below.refl _ _).alloc (Nat.le_refl _) _
 have hc:=fun j=>cell_of_row _ X.heap.size j _ t (0,0) (heap_alloc_new X (.cells #[.int .i64 x1.cls,.int .i64 x1.tag,.bool x1.cons,.slice a1 n1 c1,.slice k1 m1 e1,.int .i64 x2.cls,.int .i64 x2.tag,.bool x2.cons,.slice a2 n2 c2,.slice k2 m2 e2,.int .i64 x3.cls,.int .i64 x3.tag,.bool x3.cons,.slice a3 n3 c3,.slice k3 m3 e3] t))
 have g1:=(h1.kept hb).mono hs
 have g2:=(h2.kept hb).mono hs
 have g3:=(h3.kept hb).mono hs
 refine ⟨rfl,by decide,fun k hk=>⟨X.heap.size,0,rfl,by simp,hT,?_⟩⟩
 rcases (show k=0∨k=1∨k=2 by omega) with rfl | rfl | rfl
 ·exact ⟨a1,n1,c1,k1,m1,e1,(hc 0).trans rfl,(hc 1).trans rfl,(hc 2).trans rfl,(hc 3).trans rfl,(hc 4).trans rfl,g1.row,g1.nil,g1.max,g1.kids⟩
 ·exact ⟨a2,n2,c2,k2,m2,e2,(hc 5).trans rfl,(hc 6).trans rfl,(hc 7).trans rfl,(hc 8).trans rfl,(hc 9).trans rfl,g2.row,g2.nil,g2.max,g2.kids⟩
 ·exact ⟨a3,n3,c3,k3,m3,e3,(hc 10).trans rfl,(hc 11).trans rfl,(hc 12).trans rfl,(hc 13).trans rfl,(hc 14).trans rfl,g3.row,g3.nil,g3.max,g3.kids⟩
def W64 (n:Int):Prop:=-9223372036854775808≤n∧n≤9223372036854775807
structure OwnT (B:Nat)(w:World)(a:Option Addr)(n c:Nat)(bs:List Int):Prop where
 own:Own B w a n c bs
theorem OwnT.kept {B:Nat}{w w':World}{a:Option Addr}{n c:Nat}{bs:List Int}(h:OwnT B w a n c bs)(hb:Below w.heap.size w w'):OwnT B w' a n c bs:=⟨h.own.kept hb⟩
theorem OwnT.touched {B gb:Nat}{w w':World}{a:Option Addr}{n c:Nat}{bs:List Int}(h:OwnT B w a n c bs)(ht:Touch gb (gb+1) w w')(hlt:gb<B):OwnT B w' a n c bs:=⟨h.own.touch5 ht (by omega)⟩
open Go.RowKit Go.Sort
def KidZ (L B:Nat)(w:World)(g d:Nat)(ks:List It):Prop:=∃ S:Nat→Prop,KidsI d S w (some ⟨g,0,none⟩) ks.length ks∧∀ b,S b→(b<L∨B≤b)∧b<w.heap.size
theorem KidZ.kept {L:Nat}{B:Nat}{w w':World}{g d:Nat}{ks:List It}(h:KidZ L B w g d ks)(hb:Below w.heap.size w w'):KidZ L B w' g d ks:=by
 obtain ⟨S,h1,h2⟩:=h
 exact ⟨S,h1.touch (P:=fun _=>False) (fun _ _ h=>h) (TouchX.of_below hb),fun b hs=>⟨(h2 b hs).1,Nat.lt_of_lt_of_le (h2 b hs).2 hb.size⟩⟩
theorem KidZ.touched {L:Nat}{B:Nat}{w w':World}{g d gb:Nat}{ks:List It}(h:KidZ L B w g d ks)(ht:Touch gb (gb+1) w w')(hlt:L≤gb∧gb<B):KidZ L B w' g d ks:=by
 obtain ⟨S,h1,h2⟩:=h
 exact ⟨S,h1.touch (fun b hb e=>by have:=(h2 b hb).1; omega) ht.toX,fun b hs=>⟨(h2 b hs).1,Nat.lt_of_lt_of_le (h2 b hs).2 ht.size⟩⟩
def OwnItZ (d L R:Nat)(w:World)(a:Option Addr)(n c:Nat)(xs:List It):Prop:=OwnIts d (fun b=>(b<L∨R≤b)∧b<w.heap.size∧(Value.slice a n c).ownBlock≠some b) w a n c xs∧∀ b,(Value.slice a n c).ownBlock=some b→R≤b
theorem ownItZ_none (d L R:Nat)(w:World):OwnItZ d L R w none 0 0 []:=⟨(OwnIts.nil d w).mono (fun _ h=>h.elim) (fun b hb=>by cases hb),fun b hb=>by cases hb⟩
theorem OwnItZ.kept {L:Nat}{d R:Nat}{w w':World}{a:Option Addr}{n c:Nat}{xs:List It}(h:OwnItZ d L R w a n c xs)(hb:Below w.heap.size w w'):OwnItZ d L R w' a n c xs :=
 ⟨(h.1.kept hb).mono (fun k hk=>⟨hk.1,Nat.lt_of_lt_of_le hk.2.1 hb.size,hk.2.2⟩) (fun b hb hc=>hc.2.2 hb),h.2⟩
theorem OwnItZ.appended {L:Nat}{d R:Nat}{w1 w:World}{a:Option Addr}{n c:Nat}{xs:List It}{y:It}{ab:Option Addr}{nb cb:Nat}{ak:Option Addr}{nk ck:Nat}{g' c':Nat}{T:Nat→Prop}
  (h:OwnItZ d L R w a n c xs) (hy:ItV d T w y ab nb cb ak nk ck) (hT:∀ b,T b→(b<L∨R≤b)∧b<w.heap.size∧(Value.slice a n c).ownBlock≠some b) (hn:n+1≤9223372036854775807)
  {vs:List Value} (hv0:w.ownsRow 0 75 5 (.slice a n c) n vs) (hv:w1.ownsRow 0 75 5 (.slice (some ⟨g',0,none⟩) (n+1) c') (n+1) (vs++itc y ab nb cb ak nk ck)) (hg:w.grownBy w1 (Value.slice a n c).ownBlock) (hl:(Value.slice a n c).ownBlock=some g'∨g'=w.heap.size) (hR:R≤w.heap.size):OwnItZ d L R w1 (some ⟨g',0,none⟩) (n+1) c' (xs++[y]):=by
 refine ⟨((h.1.appended (hy.mono hT) (fun b hb=>hb) (fun b hb hc=>hc.2.2 hb) (fun b hb=>hb.2.1) hn hv0 hv hg hl)).mono (fun k hk=>⟨hk.1,Nat.lt_of_lt_of_le hk.2.1 hg.size,fun e=>?_⟩) (fun b hb hc=>hc.2.2 hb),fun b hb=>?_⟩
 ·have e2:g'=k:=by injection e
  rcases hl with hl | hl
  ·exact hk.2.2 (by rw [hl,e2])
  ·have:=hk.2.1
   omega
 ·have e2:g'=b:=by injection hb
  rcases hl with hl | hl
  ·rw [← e2]; exact h.2 g' hl
  ·omega
theorem OwnItZ.row {L:Nat}{d R:Nat}{w:World}{a:Option Addr}{n c:Nat}{xs:List It}(h:OwnItZ d L R w a n c xs):∃ vs,w.ownsRow 0 75 5 (.slice a n c) n vs:=by
 obtain ⟨vs,h1,_⟩:=h.1.own
 exact ⟨vs,h1⟩
theorem OwnItZ.kids {L:Nat}{d R:Nat}{w:World}{a:Option Addr}{n c:Nat}{xs:List It}(h:OwnItZ d L R w a n c xs):KidsI (d+1) (fun b=>(b<L∨R≤b)∧b<w.heap.size) w a n xs:=by
 obtain ⟨vs,hv⟩:=h.row
 exact h.1.kids (fun k hk=>⟨hk.1,hk.2.1⟩) (fun b hb=>⟨.inr (h.2 b hb),(hv.lt b hb).2⟩)
theorem KidZ.grown {L:Nat}{R:Nat}{w w':World}{g d:Nat}{ks:List It}{row:Option Nat}(h:KidZ L R w g d ks)(hg:w.grownBy w' row)(hlt:∀ j,row=some j→L≤j∧j<R):KidZ L R w' g d ks:=by
 obtain ⟨S,h1,h2⟩:=h
 exact ⟨S,h1.touch (fun k hk e=>by have:=hlt k e; have:=(h2 k hk).1; omega) (touchX_g hg (P:=fun k=>row=some k) (fun k hk=>hk)),fun b hb=>⟨(h2 b hb).1,Nat.lt_of_lt_of_le (h2 b hb).2 hg.size⟩⟩
structure ItZ (L B d:Nat)(w:World)(x:It)(ab:Option Addr)(nb cb:Nat)(ak:Option Addr)(nk ck:Nat):Prop where
 it:ItV d (fun b=>(b<L∨B≤b)∧b<w.heap.size) w x ab nb cb ak nk ck
theorem ItZ.kept {L:Nat}{B d:Nat}{w w':World}{x:It}{ab:Option Addr}{nb cb:Nat}{ak:Option Addr}{nk ck:Nat}(h:ItZ L B d w x ab nb cb ak nk ck)(hb:Below w.heap.size w w'):ItZ L B d w' x ab nb cb ak nk ck:=⟨(h.it.kept hb).mono (fun b hs=>⟨hs.1,Nat.lt_of_lt_of_le hs.2 hb.size⟩)⟩
theorem ItZ.touched {L:Nat}{B d gb:Nat}{w w':World}{x:It}{ab:Option Addr}{nb cb:Nat}{ak:Option Addr}{nk ck:Nat}(h:ItZ L B d w x ab nb cb ak nk ck)(ht:Touch gb (gb+1) w w')(hlt:L≤gb∧gb<B):ItZ L B d w' x ab nb cb ak nk ck:=⟨(h.it.touch (fun b hs e=>by have:=hs.1; omega) ht.toX).mono (fun b hs=>⟨hs.1,Nat.lt_of_lt_of_le hs.2 ht.size⟩)⟩
theorem ItZ.mono {L:Nat}{B B' d:Nat}{w:World}{x:It}{ab:Option Addr}{nb cb:Nat}{ak:Option Addr}{nk ck:Nat}(h:ItZ L B d w x ab nb cb ak nk ck)(hB:B'≤B):ItZ L B' d w x ab nb cb ak nk ck:=⟨h.it.mono (fun b hs=>⟨by have:=hs.1; omega,hs.2⟩)⟩
theorem ItZ.more {L:Nat}{B d:Nat}{w:World}{x:It}{ab:Option Addr}{nb cb:Nat}{ak:Option Addr}{nk ck:Nat}(h:ItZ L B d w x ab nb cb ak nk ck):ItZ L B (d+1) w x ab nb cb ak nk ck:=⟨h.it.more⟩
theorem KidZ.itz {L:Nat}{B:Nat}{w:World}{g d ck:Nat}{ks:List It}(h:KidZ L B w g d ks)(cls tag:Int):ItZ L B d w (.mk cls tag true [] ks) none 0 0 (some ⟨g,0,none⟩) ks.length ck:=by
 obtain ⟨S,h1,h2⟩:=h
 exact ⟨⟨⟨⟨rfl,fun j hj=>absurd hj (Nat.not_lt_zero _),by simp [It.body]⟩,fun x hx=>by cases hx⟩,fun _=>rfl,by decide,h1.mono h2⟩⟩
structure ListZ (L B d:Nat)(w:World)(ao:Option Addr)(n:Nat)(ks:List It):Prop where
 kids:KidsI d (fun b=>(b<L∨B≤b)∧b<w.heap.size) w ao n ks
theorem ListZ.kept {L:Nat}{B d:Nat}{w w':World}{ao:Option Addr}{n:Nat}{ks:List It}(h:ListZ L B d w ao n ks)(hb:Below w.heap.size w w'):ListZ L B d w' ao n ks:=⟨(h.kids.touch (P:=fun _=>False) (fun _ _ h=>h) (TouchX.of_below hb)).mono (fun b hs=>⟨hs.1,Nat.lt_of_lt_of_le hs.2 hb.size⟩)⟩
theorem ListZ.touched {L:Nat}{B d gb:Nat}{w w':World}{ao:Option Addr}{n:Nat}{ks:List It}(h:ListZ L B d w ao n ks)(ht:Touch gb (gb+1) w w')(hlt:L≤gb∧gb<B):ListZ L B d w' ao n ks:=⟨(h.kids.touch (fun b hs e=>by have:=hs.1; omega) ht.toX).mono (fun b hs=>⟨hs.1,Nat.lt_of_lt_of_le hs.2 ht.size⟩)⟩
theorem ListZ.itz {L:Nat}{B d:Nat}{w:World}{ao:Option Addr}{n co:Nat}{ks:List It}(h:ListZ L B d w ao n ks):ItZ L B d w (lstI ks) none 0 0 ao n co:=⟨⟨⟨⟨rfl,fun j hj=>absurd hj (Nat.not_lt_zero _),by simp [lstI,It.body]⟩,fun x hx=>by cases hx⟩,fun _=>rfl,by decide,h.kids⟩⟩
theorem kidZ_n2 {L:Nat}{B d:Nat}{X:World}{x1 x2:It}{a1:Option Addr}{n1 c1:Nat}{k1:Option Addr}{m1 e1:Nat}{a2:Option Addr}{n2 c2:Nat}{k2:Option Addr}{m2 e2:Nat}{t:Nat}(hB:B≤X.heap.size)(h1:ItZ L B d X x1 a1 n1 c1 k1 m1 e1)(h2:ItZ L B d X x2 a2 n2 c2 k2 m2 e2):KidZ L B (X.alloc (.cells #[.int .i64 x1.cls,.int .i64 x1.tag,.bool x1.cons,.slice a1 n1 c1,.slice k1 m1 e1,.int .i64 x2.cls,.int .i64 x2.tag,.bool x2.cons,.slice a2 n2 c2,.slice k2 m2 e2] t)) X.heap.size (d+1) [x1,x2]:=by
 refine ⟨fun b=>(b<L∨B≤b)∧b<X.heap.size+1,kidsI_n2 (S:=fun b=>(b<L∨B≤b)∧b<X.heap.size) h1.it h2.it (fun b hb=>⟨hb.1,by have:=hb.2; omega⟩) ⟨.inr hB,by omega⟩ rfl,fun b hb=>⟨hb.1,?_⟩⟩
 have s:(X.alloc (.cells #[.int .i64 x1.cls,.int .i64 x1.tag,.bool x1.cons,.slice a1 n1 c1,.slice k1 m1 e1,.int .i64 x2.cls,.int .i64 x2.tag,.bool x2.cons,.slice a2 n2 c2,.slice k2 m2 e2] t)).heap.size=X.heap.size+1:=by simp
 have:=hb.2
 omega
theorem ItZ.grown {L:Nat}{B d:Nat}{w w':World}{x:It}{ab:Option Addr}{nb cb:Nat}{ak:Option Addr}{nk ck:Nat}{row:Option Nat}(h:ItZ L B d w x ab nb cb ak nk ck)(hg:w.grownBy w' row)(hlt:∀ j,row=some j→L≤j∧j<B):ItZ L B d w' x ab nb cb ak nk ck :=
 ⟨(h.it.touch (fun k hk e=>by have:=hlt k e; have:=hk.1; omega) (touchX_g hg (P:=fun k=>row=some k) (fun k hk=>hk))).mono (fun b hs=>⟨hs.1,Nat.lt_of_lt_of_le hs.2 hg.size⟩)⟩
theorem row_itz {L B:Nat}{w:World}{a:Option Addr}{n c:Nat}{bs:List Int}(h:Row w a n bs)(hL:∀ x,a=some x→0<n→x.block<L)(hnil:a=none→c=0)(t:Int)(hn:n≤9223372036854775807):ItZ L B 1 w (.mk 0 t false bs []) a n c none 0 0:=by
 refine ⟨⟨⟨h,fun x hx h0=>?_⟩,hnil,hn,KidsI.none 0 _ _ _⟩⟩
 obtain ⟨b,off,ha,hlt,_⟩:=h.get 0 h0
 refine ⟨.inl (hL x hx h0),?_⟩
 rw [ha] at hx
 injection hx with hx
 rw [← hx]
 exact hlt
open Go.RowKit Go.Sort
def ItR (L R d:Nat)(x:It)(e:Ending)(w':World):Prop:=∃ ab nb cb ak nk ck,e=.returned (.agg #[.int .i64 x.cls,.int .i64 x.tag,.bool x.cons,.slice ab nb cb,.slice ak nk ck])∧ItZ L R d w' x ab nb cb ak nk ck
theorem ItZ.le {L B d d':Nat}{w:World}{x:It}{ab:Option Addr}{nb cb:Nat}{ak:Option Addr}{nk ck:Nat}(h:ItZ L B d w x ab nb cb ak nk ck)(hd:d≤d'):ItZ L B d' w x ab nb cb ak nk ck:=by
 induction hd with
 | refl=>exact h
 | step _ ih=>exact ih.more
theorem rowZ {L B:Nat}{w:World}{g k n c:Nat}{bs:List Int}(hr:Row w (some ⟨g,k,none⟩) n bs)(hB:B≤g)(t:Int)(hn:n≤9223372036854775807):ItZ L B 1 w (.mk 0 t false bs []) (some ⟨g,k,none⟩) n c none 0 0:=by
 refine ⟨⟨⟨hr,fun x hx h0=>?_⟩,fun e=>(by cases e),hn,KidsI.none 0 _ _ _⟩⟩
 obtain ⟨b,off,ha,hlt,_⟩:=hr.get 0 h0
 injection hx with hx
 injection ha with ha
 injection ha with ha _
 rw [← hx]
 refine ⟨.inr hB,?_⟩
 show g<_
 rw [ha]
 exact hlt
theorem Own.itzB {L B:Nat}{w:World}{a:Option Addr}{n c:Nat}{bs:List Int}(h:Own B w a n c bs)(t:Int)(hn:n≤9223372036854775807):ItZ L B 1 w (.mk 0 t false bs []) a n c none 0 0:=⟨(h.itv1 t hn).mono (fun b hs=>⟨.inr hs.1,hs.2⟩)⟩
theorem kidsI_n1 {d:Nat}{S:Nat→Prop}{X:World}{x1:It}{a1:Option Addr}{n1 c1:Nat}{k1:Option Addr}{m1 e1:Nat}(h1:ItV d S X x1 a1 n1 c1 k1 m1 e1){T:Nat→Prop}(hs:∀ b,S b→T b)(hT:T X.heap.size){W:World}{t:Nat}(hW:W=X.alloc (.cells #[.int .i64 x1.cls,.int .i64 x1.tag,.bool x1.cons,.slice a1 n1 c1,.slice k1 m1 e1] t)):KidsI (d+1) T W (some ⟨X.heap.size,0,none⟩) 1 [x1]:=by
 subst hW
 have hb:Below X.heap.size X (X.alloc (.cells #[.int .i64 x1.cls,.int .i64 x1.tag,.bool x1.cons,.slice a1 n1 c1,.slice k1 m1 e1] t)):=(Below.refl _ _).alloc (Nat.le_refl _) _
 have hc:=fun j=>cell_of_row _ X.heap.size j _ t (0,0) (heap_alloc_new X (.cells #[.int .i64 x1.cls,.int .i64 x1.tag,.bool x1.cons,.slice a1 n1 c1,.slice k1 m1 e1] t))
 have g1:=(h1.kept hb).mono hs
 refine ⟨rfl,by decide,fun k hk=>⟨X.heap.size,0,rfl,by simp,hT,?_⟩⟩
 rcases (show k=0 by omega) with rfl
 ·exact ⟨a1,n1,c1,k1,m1,e1,(hc 0).trans rfl,(hc 1).trans rfl,(hc 2).trans rfl,(hc 3).trans rfl,(hc 4).trans rfl,g1.row,g1.nil,g1.max,g1.kids⟩
theorem kidZ_n1 {L:Nat}{B d:Nat}{X:World}{x1:It}{a1:Option Addr}{n1 c1:Nat}{k1:Option Addr}{m1 e1:Nat}{t:Nat}(hB:B≤X.heap.size)(h1:ItZ L B d X x1 a1 n1 c1 k1 m1 e1):KidZ L B (X.alloc (.cells #[.int .i64 x1.cls,.int .i64 x1.tag,.bool x1.cons,.slice a1 n1 c1,.slice k1 m1 e1] t)) X.heap.size (d+1) [x1]:=by
 refine ⟨fun b=>(b<L∨B≤b)∧b<X.heap.size+1,kidsI_n1 (S:=fun b=>(b<L∨B≤b)∧b<X.heap.size) h1.it (fun b hb=>⟨hb.1,by have:=hb.2; omega⟩) ⟨.inr hB,by omega⟩ rfl,fun b hb=>⟨hb.1,?_⟩⟩
 have s:(X.alloc (.cells #[.int .i64 x1.cls,.int .i64 x1.tag,.bool x1.cons,.slice a1 n1 c1,.slice k1 m1 e1] t)).heap.size=X.heap.size+1:=by simp
 have:=hb.2
 omega
theorem kidZ_n3 {L:Nat}{B d:Nat}{X:World}{x1 x2 x3:It}{a1:Option Addr}{n1 c1:Nat}{k1:Option Addr}{m1 e1:Nat}{a2:Option Addr}{n2 c2:Nat}{k2:Option Addr}{m2 e2:Nat}{a3:Option Addr}{n3 c3:Nat}{k3:Option Addr}{m3 e3:Nat}{t:Nat}(hB:B≤X.heap.size)(h1:ItZ L B d X x1 a1 n1 c1 k1 m1 e1)(h2:ItZ L B d X x2 a2 n2 c2 k2 m2 e2)(h3:ItZ L B d X x3 a3 n3 c3 k3 m3 e3):KidZ L B (X.alloc (.cells #[.int .i64 x1.cls,.int .i64 x1.tag,.bool x1.cons,.slice a1 n1 c1,.slice k1 m1 e1,.int .i64 x2.cls,.int .i64 x2.tag,.bool x2.cons,.slice a2 n2 c2,.slice k2 m2 e2,.int .i64 x3.cls,.int .i64 x3.tag,.bool x3.cons,.slice a3 n3 c3,.slice k3 m3 e3] t)) X.heap.size (d+1) [x1,x2,x3]:=by
 refine ⟨fun b=>(b<L∨B≤b)∧b<X.heap.size+1,kidsI_n3 (S:=fun b=>(b<L∨B≤b)∧b<X.heap.size) h1.it h2.it h3.it (fun b hb=>⟨hb.1,by have:=hb.2; omega⟩) ⟨.inr hB,by omega⟩ rfl,fun b hb=>⟨hb.1,?_⟩⟩
 have s:(X.alloc (.cells #[.int .i64 x1.cls,.int .i64 x1.tag,.bool x1.cons,.slice a1 n1 c1,.slice k1 m1 e1,.int .i64 x2.cls,.int .i64 x2.tag,.bool x2.cons,.slice a2 n2 c2,.slice k2 m2 e2,.int .i64 x3.cls,.int .i64 x3.tag,.bool x3.cons,.slice a3 n3 c3,.slice k3 m3 e3] t)).heap.size=X.heap.size+1:=by simp
 have:=hb.2
 omega
theorem kidsI_n5 {d:Nat}{S:Nat→Prop}{X:World}{x1 x2 x3 x4 x5:It}{a1:Option Addr}{n1 c1:Nat}{k1:Option Addr}{m1 e1:Nat}{a2:Option Addr}{n2 c2:Nat}{k2:Option Addr}{m2 e2:Nat}{a3:Option Addr}{n3 c3:Nat}{k3:Option Addr}{m3 e3:Nat}{a4:Option Addr}{n4 c4:Nat}{k4:Option Addr}{m4 e4:Nat}{a5:Option Addr}{n5 c5:Nat}{k5:Option Addr}{m5 e5:Nat}(h1:ItV d S X x1 a1 n1 c1 k1 m1 e1)(h2:ItV d S X x2 a2 n2 c2 k2 m2 e2)(h3:ItV d S X x3 a3 n3 c3 k3 m3 e3)(h4:ItV d S X x4 a4 n4 c4 k4 m4 e4)(h5:ItV d S X x5 a5 n5 c5 k5 m5 e5){T:Nat→Prop}(hs:∀ b,S b→T b)(hT:T X.heap.size){W:World}{t:Nat}(hW:W=X.alloc (.cells #[.int .i64 x1.cls,.int .i64 x1.tag,.bool x1.cons,.slice a1 n1 c1,.slice k1 m1 e1,.int .i64 x2.cls,.int .i64 x2.tag,.bool x2.cons,.slice a2 n2 c2,.slice k2 m2 e2,.int .i64 x3.cls,.int .i64 x3.tag,.bool x3.cons,.slice a3 n3 c3,.slice k3 m3 e3,.int .i64 x4.cls,.int .i64 x4.tag,.bool x4.cons,.slice a4 n4 c4,.slice k4 m4 e4,.int .i64 x5.cls,.int .i64 x5.tag,.bool x5.cons,.slice a5 n5 c5,.slice k5 m5 e5] t)):KidsI (d+1) T W (some ⟨X.heap.size,0,none⟩) 5 [x1,x2,x3,x4,x5]:=by
 subst hW
 have hb:Below X.heap.size X (X.alloc (.cells #[.int .i64 x1.cls,.int .i64 x1.tag,.bool x1.cons,.slice a1 n1 c1,.slice k1 m1 e1,.int .i64 x2.cls,.int .i64 x2.tag,.bool x2.cons,.slice a2 n2 c2,.slice k2 m2 e2,.int .i64 x3.cls,.int .i64 x3.tag,.bool x3.cons,.slice a3 n3 c3,.slice k3 m3 e3,.int .i64 x4.cls,.int .i64 x4.tag,.bool x4.cons,.slice a4 n4 c4,.slice k4 m4 e4,.int .i64 x5.cls,.int .i64 x5.tag,.bool x5.cons,.slice a5 n5 c5,.slice k5 m5 e5] t)):=(Below.refl _ _).alloc (Nat.le_refl _) _
 have hc:=fun j=>cell_of_row _ X.heap.size j _ t (0,0) (heap_alloc_new X (.cells #[.int .i64 x1.cls,.int .i64 x1.tag,.bool x1.cons,.slice a1 n1 c1,.slice k1 m1 e1,.int .i64 x2.cls,.int .i64 x2.tag,.bool x2.cons,.slice a2 n2 c2,.slice k2 m2 e2,.int .i64 x3.cls,.int .i64 x3.tag,.bool x3.cons,.slice a3 n3 c3,.slice k3 m3 e3,.int .i64 x4.cls,.int .i64 x4.tag,.bool x4.cons,.slice a4 n4 c4,.slice k4 m4 e4,.int .i64 x5.cls,.int .i64 x5.tag,.bool x5.cons,.slice a5 n5 c5,.slice k5 m5 e5] t))
 have g1:=(h1.kept hb).mono hs
 have g2:=(h2.kept hb).mono hs
 have g3:=(h3.kept hb).mono hs
 have g4:=(h4.kept hb).mono hs
 have g5:=(h5.kept hb).mono hs
 refine ⟨rfl,by decide,fun k hk=>⟨X.heap.size,0,rfl,by simp,hT,?_⟩⟩
 rcases (show k=0∨k=1∨k=2∨k=3∨k=4 by omega) with rfl | rfl | rfl | rfl | rfl
 ·exact ⟨a1,n1,c1,k1,m1,e1,(hc 0).trans rfl,(hc 1).trans rfl,(hc 2).trans rfl,(hc 3).trans rfl,(hc 4).trans rfl,g1.row,g1.nil,g1.max,g1.kids⟩
 ·exact ⟨a2,n2,c2,k2,m2,e2,(hc 5).trans rfl,(hc 6).trans rfl,(hc 7).trans rfl,(hc 8).trans rfl,(hc 9).trans rfl,g2.row,g2.nil,g2.max,g2.kids⟩
 ·exact ⟨a3,n3,c3,k3,m3,e3,(hc 10).trans rfl,(hc 11).trans rfl,(hc 12).trans rfl,(hc 13).trans rfl,(hc 14).trans rfl,g3.row,g3.nil,g3.max,g3.kids⟩
 ·exact ⟨a4,n4,c4,k4,m4,e4,(hc 15).trans rfl,(hc 16).trans rfl,(hc 17).trans rfl,(hc 18).trans rfl,(hc 19).trans rfl,g4.row,g4.nil,g4.max,g4.kids⟩
 ·exact ⟨a5,n5,c5,k5,m5,e5,(hc 20).trans rfl,(hc 21).trans rfl,(hc 22).trans rfl,(hc 23).trans rfl,(hc 24).trans rfl,g5.row,g5.nil,g5.max,g5.kids⟩
theorem kidZ_n5 {L:Nat}{B d:Nat}{X:World}{x1 x2 x3 x4 x5:It}{a1:Option Addr}{n1 c1:Nat}{k1:Option Addr}{m1 e1:Nat}{a2:Option Addr}{n2 c2:Nat}{k2:Option Addr}{m2 e2:Nat}{a3:Option Addr}{n3 c3:Nat}{k3:Option Addr}{m3 e3:Nat}{a4:Option Addr}{n4 c4:Nat}{k4:Option Addr}{m4 e4:Nat}{a5:Option Addr}{n5 c5:Nat}{k5:Option Addr}{m5 e5:Nat}{t:Nat}(hB:B≤X.heap.size)(h1:ItZ L B d X x1 a1 n1 c1 k1 m1 e1)(h2:ItZ L B d X x2 a2 n2 c2 k2 m2 e2)(h3:ItZ L B d X x3 a3 n3 c3 k3 m3 e3)(h4:ItZ L B d X x4 a4 n4 c4 k4 m4 e4)(h5:ItZ L B d X x5 a5 n5 c5 k5 m5 e5):KidZ L B (X.alloc (.cells #[.int .i64 x1.cls,.int .i64 x1.tag,.bool x1.cons,.slice a1 n1 c1,.slice k1 m1 e1,.int .i64 x2.cls,.int .i64 x2.tag,.bool x2.cons,.slice a2 n2 c2,.slice k2 m2 e2,.int .i64 x3.cls,.int .i64 x3.tag,.bool x3.cons,.slice a3 n3 c3,.slice k3 m3 e3,.int .i64 x4.cls,.int .i64 x4.tag,.bool x4.cons,.slice a4 n4 c4,.slice k4 m4 e4,.int .i64 x5.cls,.int .i64 x5.tag,.bool x5.cons,.slice a5 n5 c5,.slice k5 m5 e5] t)) X.heap.size (d+1) [x1,x2,x3,x4,x5]:=by
 refine ⟨fun b=>(b<L∨B≤b)∧b<X.heap.size+1,kidsI_n5 (S:=fun b=>(b<L∨B≤b)∧b<X.heap.size) h1.it h2.it h3.it h4.it h5.it (fun b hb=>⟨hb.1,by have:=hb.2; omega⟩) ⟨.inr hB,by omega⟩ rfl,fun b hb=>⟨hb.1,?_⟩⟩
 have s:(X.alloc (.cells #[.int .i64 x1.cls,.int .i64 x1.tag,.bool x1.cons,.slice a1 n1 c1,.slice k1 m1 e1,.int .i64 x2.cls,.int .i64 x2.tag,.bool x2.cons,.slice a2 n2 c2,.slice k2 m2 e2,.int .i64 x3.cls,.int .i64 x3.tag,.bool x3.cons,.slice a3 n3 c3,.slice k3 m3 e3,.int .i64 x4.cls,.int .i64 x4.tag,.bool x4.cons,.slice a4 n4 c4,.slice k4 m4 e4,.int .i64 x5.cls,.int .i64 x5.tag,.bool x5.cons,.slice a5 n5 c5,.slice k5 m5 e5] t)).heap.size=X.heap.size+1:=by simp
 have:=hb.2
 omega
theorem kidsI_n18 {d:Nat}{S:Nat→Prop}{X:World}{x1 x2 x3 x4 x5 x6 x7 x8 x9 x10 x11 x12 x13 x14 x15 x16 x17 x18:It}{a1:Option Addr}{n1 c1:Nat}{k1:Option Addr}{m1 e1:Nat}{a2:Option Addr}{n2 c2:Nat}{k2:Option Addr}{m2 e2:Nat}{a3:Option Addr}{n3 c3:Nat}{k3:Option Addr}{m3 e3:Nat}{a4:Option Addr}{n4 c4:Nat}{k4:Option Addr}{m4 e4:Nat}{a5:Option Addr}{n5 c5:Nat}{k5:Option Addr}{m5 e5:Nat}{a6:Option Addr}{n6 c6:Nat}{k6:Option Addr}{m6 e6:Nat}{a7:Option Addr}{n7 c7:Nat}{k7:Option Addr}{m7 e7:Nat}{a8:Option Addr}{n8 c8:Nat}{k8:Option Addr}{m8 e8:Nat}{a9:Option Addr}{n9 c9:Nat}{k9:Option Addr}{m9 e9:Nat}{a10:Option Addr}{n10 c10:Nat}{k10:Option Addr}{m10 e10:Nat}{a11:Option Addr}{n11 c11:Nat}{k11:Option Addr}{m11 e11:Nat}{a12:Option Addr}{n12 c12:Nat}{k12:Option Addr}{m12 e12:Nat}{a13:Option Addr}{n13 c13:Nat}{k13:Option Addr}{m13 e13:Nat}{a14:Option Addr}{n14 c14:Nat}{k14:Option Addr}{m14 e14:Nat}{a15:Option Addr}{n15 c15:Nat}{k15:Option Addr}{m15 e15:Nat}{a16:Option Addr}{n16 c16:Nat}{k16:Option Addr}{m16 e16:Nat}{a17:Option Addr}{n17 c17:Nat}{k17:Option Addr}{m17 e17:Nat}{a18:Option Addr}{n18 c18:Nat}{k18:Option Addr}{m18 e18:Nat}(h1:ItV d S X x1 a1 n1 c1 k1 m1 e1)(h2:ItV d S X x2 a2 n2 c2 k2 m2 e2)(h3:ItV d S X x3 a3 n3 c3 k3 m3 e3)(h4:ItV d S X x4 a4 n4 c4 k4 m4 e4)(h5:ItV d S X x5 a5 n5 c5 k5 m5 e5)(h6:ItV d S X x6 a6 n6 c6 k6 m6 e6)(h7:ItV d S X x7 a7 n7 c7 k7 m7 e7)(h8:ItV d S X x8 a8 n8 c8 k8 m8 e8)(h9:ItV d S X x9 a9 n9 c9 k9 m9 e9)(h10:ItV d S X x10 a10 n10 c10 k10 m10 e10)(h11:ItV d S X x11 a11 n11 c11 k11 m11 e11)(h12:ItV d S X x12 a12 n12 c12 k12 m12 e12)(h13:ItV d S X x13 a13 n13 c13 k13 m13 e13)(h14:ItV d S X x14 a14 n14 c14 k14 m14 e14)(h15:ItV d S X x15 a15 n15 c15 k15 m15 e15)(h16:ItV d S X x16 a16 n16 c16 k16 m16 e16)(h17:ItV d S X x17 a17 n17 c17 k17 m17 e17)(h18:ItV d S X x18 a18 n18 c18 k18 m18 e18){T:Nat→Prop}(hs:∀ b,S b→T b)(hT:T X.heap.size){W:World}{t:Nat}(hW:W=X.alloc (.cells #[.int .i64 x1.cls,.int .i64 x1.tag,.bool x1.cons,.slice a1 n1 c1,.slice k1 m1 e1,.int .i64 x2.cls,.int .i64 x2.tag,.bool x2.cons,.slice a2 n2 c2,.slice k2 m2 e2,.int .i64 x3.cls,.int .i64 x3.tag,.bool x3.cons,.slice a3 n3 c3,.slice k3 m3 e3,.int .i64 x4.cls,.int .i64 x4.tag,.bool x4.cons,.slice a4 n4 c4,.slice k4 m4 e4,.int .i64 x5.cls,.int .i64 x5.tag,.bool x5.cons,.slice a5 n5 c5,.slice k5 m5 e5,.int .i64 x6.cls,.int .i64 x6.tag,.bool x6.cons,.slice a6 n6 c6,.slice k6 m6 e6,.int .i64 x7.cls,.int .i64 x7.tag,.bool x7.cons,.slice a7 n7 c7,.slice k7 m7 e7,.int .i64 x8.cls,.int .i64 x8.tag,.bool x8.cons,.slice a8 n8 c8,.slice k8 m8 e8,.int .i64 x9.cls,.int .i64 x9.tag,.bool x9.cons,.slice a9 n9 c9,.slice k9 m9 e9,.int .i64 x10.cls,.int .i64 x10.tag,.bool x10.cons,.slice a10 n10 c10,.slice k10 m10 e10,.int .i64 x11.cls,.int .i64 x11.tag,.bool x11.cons,.slice a11 n11 c11,.slice k11 m11 e11,.int .i64 x12.cls,.int .i64 x12.tag,.bool x12.cons,.slice a12 n12 c12,.slice k12 m12 e12,.int .i64 x13.cls,.int .i64 x13.tag,.bool x13.cons,.slice a13 n13 c13,.slice k13 m13 e13,.int .i64 x14.cls,.int .i64 x14.tag,.bool x14.cons,.slice a14 n14 c14,.slice k14 m14 e14,.int .i64 x15.cls,.int .i64 x15.tag,.bool x15.cons,.slice a15 n15 c15,.slice k15 m15 e15,.int .i64 x16.cls,.int .i64 x16.tag,.bool x16.cons,.slice a16 n16 c16,.slice k16 m16 e16,.int .i64 x17.cls,.int .i64 x17.tag,.bool x17.cons,.slice a17 n17 c17,.slice k17 m17 e17,.int .i64 x18.cls,.int .i64 x18.tag,.bool x18.cons,.slice a18 n18 c18,.slice k18 m18 e18] t)):KidsI (d+1) T W (some ⟨X.heap.size,0,none⟩) 18 [x1,x2,x3,x4,x5,x6,x7,x8,x9,x10,x11,x12,x13,x14,x15,x16,x17,x18]:=by
 subst hW
 have hb:Below X.heap.size X (X.alloc (.cells #[.int .i64 x1.cls,.int .i64 x1.tag,.bool x1.cons,.slice a1 n1 c1,.slice k1 m1 e1,.int .i64 x2.cls,.int .i64 x2.tag,.bool x2.cons,.slice a2 n2 c2,.slice k2 m2 e2,.int .i64 x3.cls,.int .i64 x3.tag,.bool x3.cons,.slice a3 n3 c3,.slice k3 m3 e3,.int .i64 x4.cls,.int .i64 x4.tag,.bool x4.cons,.slice a4 n4 c4,.slice k4 m4 e4,.int .i64 x5.cls,.int .i64 x5.tag,.bool x5.cons,.slice a5 n5 c5,.slice k5 m5 e5,.int .i64 x6.cls,.int .i64 x6.tag,.bool x6.cons,.slice a6 n6 c6,.slice k6 m6 e6,.int .i64 x7.cls,.int .i64 x7.tag,.bool x7.cons,.slice a7 n7 c7,.slice k7 m7 e7,.int .i64 x8.cls,.int .i64 x8.tag,.bool x8.cons,.slice a8 n8 c8,.slice k8 m8 e8,.int .i64 x9.cls,.int .i64 x9.tag,.bool x9.cons,.slice a9 n9 c9,.slice k9 m9 e9,.int .i64 x10.cls,.int .i64 x10.tag,.bool x10.cons,.slice a10 n10 c10,.slice k10 m10 e10,.int .i64 x11.cls,.int .i64 x11.tag,.bool x11.cons,.slice a11 n11 c11,.slice k11 m11 e11,.int .i64 x12.cls,.int .i64 x12.tag,.bool x12.cons,.slice a12 n12 c12,.slice k12 m12 e12,.int .i64 x13.cls,.int .i64 x13.tag,.bool x13.cons,.slice a13 n13 c13,.slice k13 m13 e13,.int .i64 x14.cls,.int .i64 x14.tag,.bool x14.cons,.slice a14 n14 c14,.slice k14 m14 e14,.int .i64 x15.cls,.int .i64 x15.tag,.bool x15.cons,.slice a15 n15 c15,.slice k15 m15 e15,.int .i64 x16.cls,.int .i64 x16.tag,.bool x16.cons,.slice a16 n16 c16,.slice k16 m16 e16,.int .i64 x17.cls,.int .i64 x17.tag,.bool x17.cons,.slice a17 n17 c17,.slice k17 m17 e17,.int .i64 x18.cls,.int .i64 x18.tag,.bool x18.cons,.slice a18 n18 c18,.slice k18 m18 e18] t)):=(Below.refl _ _).alloc (Nat.le_refl _) _
 have hc:=fun j=>cell_of_row _ X.heap.size j _ t (0,0) (heap_alloc_new X (.cells #[.int .i64 x1.cls,.int .i64 x1.tag,.bool x1.cons,.slice a1 n1 c1,.slice k1 m1 e1,.int .i64 x2.cls,.int .i64 x2.tag,.bool x2.cons,.slice a2 n2 c2,.slice k2 m2 e2,.int .i64 x3.cls,.int .i64 x3.tag,.bool x3.cons,.slice a3 n3 c3,.slice k3 m3 e3,.int .i64 x4.cls,.int .i64 x4.tag,.bool x4.cons,.slice a4 n4 c4,.slice k4 m4 e4,.int .i64 x5.cls,.int .i64 x5.tag,.bool x5.cons,.slice a5 n5 c5,.slice k5 m5 e5,.int .i64 x6.cls,.int .i64 x6.tag,.bool x6.cons,.slice a6 n6 c6,.slice k6 m6 e6,.int .i64 x7.cls,.int .i64 x7.tag,.bool x7.cons,.slice a7 n7 c7,.slice k7 m7 e7,.int .i64 x8.cls,.int .i64 x8.tag,.bool x8.cons,.slice a8 n8 c8,.slice k8 m8 e8,.int .i64 x9.cls,.int .i64 x9.tag,.bool x9.cons,.slice a9 n9 c9,.slice k9 m9 e9,.int .i64 x10.cls,.int .i64 x10.tag,.bool x10.cons,.slice a10 n10 c10,.slice k10 m10 e10,.int .i64 x11.cls,.int .i64 x11.tag,.bool x11.cons,.slice a11 n11 c11,.slice k11 m11 e11,.int .i64 x12.cls,.int .i64 x12.tag,.bool x12.cons,.slice a12 n12 c12,.slice k12 m12 e12,.int .i64 x13.cls,.int .i64 x13.tag,.bool x13.cons,.slice a13 n13 c13,.slice k13 m13 e13,.int .i64 x14.cls,.int .i64 x14.tag,.bool x14.cons,.slice a14 n14 c14,.slice k14 m14 e14,.int .i64 x15.cls,.int .i64 x15.tag,.bool x15.cons,.slice a15 n15 c15,.slice k15 m15 e15,.int .i64 x16.cls,.int .i64 x16.tag,.bool x16.cons,.slice a16 n16 c16,.slice k16 m16 e16,.int .i64 x17.cls,.int .i64 x17.tag,.bool x17.cons,.slice a17 n17 c17,.slice k17 m17 e17,.int .i64 x18.cls,.int .i64 x18.tag,.bool x18.cons,.slice a18 n18 c18,.slice k18 m18 e18] t))
 have g1:=(h1.kept hb).mono hs
 have g2:=(h2.kept hb).mono hs
 have g3:=(h3.kept hb).mono hs
 have g4:=(h4.kept hb).mono hs
 have g5:=(h5.kept hb).mono hs
 have g6:=(h6.kept hb).mono hs
 have g7:=(h7.kept hb).mono hs
 have g8:=(h8.kept hb).mono hs
 have g9:=(h9.kept hb).mono hs
 have g10:=(h10.kept hb).mono hs
 have g11:=(h11.kept hb).mono hs
 have g12:=(h12.kept hb).mono hs
 have g13:=(h13.kept hb).mono hs
 have g14:=(h14.kept hb).mono hs
 have g15:=(h15.kept hb).mono hs
 have g16:=(h16.kept hb).mono hs
 have g17:=(h17.kept hb).mono hs
 have g18:=(h18.kept hb).mono hs
 refine ⟨rfl,by decide,fun k hk=>⟨X.heap.size,0,rfl,by simp,hT,?_⟩⟩
 rcases (show k=0∨k=1∨k=2∨k=3∨k=4∨k=5∨k=6∨k=7∨k=8∨k=9∨k=10∨k=11∨k=12∨k=13∨k=14∨k=15∨k=16∨k=17 by omega) with rfl | rfl | rfl | rfl | rfl | rfl | rfl | rfl | rfl | rfl | rfl | rfl | rfl | rfl | rfl | rfl | rfl | rfl
 ·exact ⟨a1,n1,c1,k1,m1,e1,(hc 0).trans rfl,(hc 1).trans rfl,(hc 2).trans rfl,(hc 3).trans rfl,(hc 4).trans rfl,g1.row,g1.nil,g1.max,g1.kids⟩
 ·exact ⟨a2,n2,c2,k2,m2,e2,(hc 5).trans rfl,(hc 6).trans rfl,(hc 7).trans rfl,(hc 8).trans rfl,(hc 9).trans rfl,g2.row,g2.nil,g2.max,g2.kids⟩
 ·exact ⟨a3,n3,c3,k3,m3,e3,(hc 10).trans rfl,(hc 11).trans rfl,(hc 12).trans rfl,(hc 13).trans rfl,(hc 14).trans rfl,g3.row,g3.nil,g3.max,g3.kids⟩
 ·exact ⟨a4,n4,c4,k4,m4,e4,(hc 15).trans rfl,(hc 16).trans rfl,(hc 17).trans rfl,(hc 18).trans rfl,(hc 19).trans rfl,g4.row,g4.nil,g4.max,g4.kids⟩
 ·exact ⟨a5,n5,c5,k5,m5,e5,(hc 20).trans rfl,(hc 21).trans rfl,(hc 22).trans rfl,(hc 23).trans rfl,(hc 24).trans rfl,g5.row,g5.nil,g5.max,g5.kids⟩
 ·exact ⟨a6,n6,c6,k6,m6,e6,(hc 25).trans rfl,(hc 26).trans rfl,(hc 27).trans rfl,(hc 28).trans rfl,(hc 29).trans rfl,g6.row,g6.nil,g6.max,g6.kids⟩
 ·exact ⟨a7,n7,c7,k7,m7,e7,(hc 30).trans rfl,(hc 31).trans rfl,(hc 32).trans rfl,(hc 33).trans rfl,(hc 34).trans rfl,g7.row,g7.nil,g7.max,g7.kids⟩
 ·exact ⟨a8,n8,c8,k8,m8,e8,(hc 35).trans rfl,(hc 36).trans rfl,(hc 37).trans rfl,(hc 38).trans rfl,(hc 39).trans rfl,g8.row,g8.nil,g8.max,g8.kids⟩
 ·exact ⟨a9,n9,c9,k9,m9,e9,(hc 40).trans rfl,(hc 41).trans rfl,(hc 42).trans rfl,(hc 43).trans rfl,(hc 44).trans rfl,g9.row,g9.nil,g9.max,g9.kids⟩
 ·exact ⟨a10,n10,c10,k10,m10,e10,(hc 45).trans rfl,(hc 46).trans rfl,(hc 47).trans rfl,(hc 48).trans rfl,(hc 49).trans rfl,g10.row,g10.nil,g10.max,g10.kids⟩
 ·exact ⟨a11,n11,c11,k11,m11,e11,(hc 50).trans rfl,(hc 51).trans rfl,(hc 52).trans rfl,(hc 53).trans rfl,(hc 54).trans rfl,g11.row,g11.nil,g11.max,g11.kids⟩
 ·exact ⟨a12,n12,c12,k12,m12,e12,(hc 55).trans rfl,(hc 56).trans rfl,(hc 57).trans rfl,(hc 58).trans rfl,(hc 59).trans rfl,g12.row,g12.nil,g12.max,g12.kids⟩
 ·exact ⟨a13,n13,c13,k13,m13,e13,(hc 60).trans rfl,(hc 61).trans rfl,(hc 62).trans rfl,(hc 63).trans rfl,(hc 64).trans rfl,g13.row,g13.nil,g13.max,g13.kids⟩
 ·exact ⟨a14,n14,c14,k14,m14,e14,(hc 65).trans rfl,(hc 66).trans rfl,(hc 67).trans rfl,(hc 68).trans rfl,(hc 69).trans rfl,g14.row,g14.nil,g14.max,g14.kids⟩
 ·exact ⟨a15,n15,c15,k15,m15,e15,(hc 70).trans rfl,(hc 71).trans rfl,(hc 72).trans rfl,(hc 73).trans rfl,(hc 74).trans rfl,g15.row,g15.nil,g15.max,g15.kids⟩
 ·exact ⟨a16,n16,c16,k16,m16,e16,(hc 75).trans rfl,(hc 76).trans rfl,(hc 77).trans rfl,(hc 78).trans rfl,(hc 79).trans rfl,g16.row,g16.nil,g16.max,g16.kids⟩
 ·exact ⟨a17,n17,c17,k17,m17,e17,(hc 80).trans rfl,(hc 81).trans rfl,(hc 82).trans rfl,(hc 83).trans rfl,(hc 84).trans rfl,g17.row,g17.nil,g17.max,g17.kids⟩
 ·exact ⟨a18,n18,c18,k18,m18,e18,(hc 85).trans rfl,(hc 86).trans rfl,(hc 87).trans rfl,(hc 88).trans rfl,(hc 89).trans rfl,g18.row,g18.nil,g18.max,g18.kids⟩
theorem kidZ_n18 {L:Nat}{B d:Nat}{X:World}{x1 x2 x3 x4 x5 x6 x7 x8 x9 x10 x11 x12 x13 x14 x15 x16 x17 x18:It}{a1:Option Addr}{n1 c1:Nat}{k1:Option Addr}{m1 e1:Nat}{a2:Option Addr}{n2 c2:Nat}{k2:Option Addr}{m2 e2:Nat}{a3:Option Addr}{n3 c3:Nat}{k3:Option Addr}{m3 e3:Nat}{a4:Option Addr}{n4 c4:Nat}{k4:Option Addr}{m4 e4:Nat}{a5:Option Addr}{n5 c5:Nat}{k5:Option Addr}{m5 e5:Nat}{a6:Option Addr}{n6 c6:Nat}{k6:Option Addr}{m6 e6:Nat}{a7:Option Addr}{n7 c7:Nat}{k7:Option Addr}{m7 e7:Nat}{a8:Option Addr}{n8 c8:Nat}{k8:Option Addr}{m8 e8:Nat}{a9:Option Addr}{n9 c9:Nat}{k9:Option Addr}{m9 e9:Nat}{a10:Option Addr}{n10 c10:Nat}{k10:Option Addr}{m10 e10:Nat}{a11:Option Addr}{n11 c11:Nat}{k11:Option Addr}{m11 e11:Nat}{a12:Option Addr}{n12 c12:Nat}{k12:Option Addr}{m12 e12:Nat}{a13:Option Addr}{n13 c13:Nat}{k13:Option Addr}{m13 e13:Nat}{a14:Option Addr}{n14 c14:Nat}{k14:Option Addr}{m14 e14:Nat}{a15:Option Addr}{n15 c15:Nat}{k15:Option Addr}{m15 e15:Nat}{a16:Option Addr}{n16 c16:Nat}{k16:Option Addr}{m16 e16:Nat}{a17:Option Addr}{n17 c17:Nat}{k17:Option Addr}{m17 e17:Nat}{a18:Option Addr}{n18 c18:Nat}{k18:Option Addr}{m18 e18:Nat}{t:Nat}(hB:B≤X.heap.size)(h1:ItZ L B d X x1 a1 n1 c1 k1 m1 e1)(h2:ItZ L B d X x2 a2 n2 c2 k2 m2 e2)(h3:ItZ L B d X x3 a3 n3 c3 k3 m3 e3)(h4:ItZ L B d X x4 a4 n4 c4 k4 m4 e4)(h5:ItZ L B d X x5 a5 n5 c5 k5 m5 e5)(h6:ItZ L B d X x6 a6 n6 c6 k6 m6 e6)(h7:ItZ L B d X x7 a7 n7 c7 k7 m7 e7)(h8:ItZ L B d X x8 a8 n8 c8 k8 m8 e8)(h9:ItZ L B d X x9 a9 n9 c9 k9 m9 e9)(h10:ItZ L B d X x10 a10 n10 c10 k10 m10 e10)(h11:ItZ L B d X x11 a11 n11 c11 k11 m11 e11)(h12:ItZ L B d X x12 a12 n12 c12 k12 m12 e12)(h13:ItZ L B d X x13 a13 n13 c13 k13 m13 e13)(h14:ItZ L B d X x14 a14 n14 c14 k14 m14 e14)(h15:ItZ L B d X x15 a15 n15 c15 k15 m15 e15)(h16:ItZ L B d X x16 a16 n16 c16 k16 m16 e16)(h17:ItZ L B d X x17 a17 n17 c17 k17 m17 e17)(h18:ItZ L B d X x18 a18 n18 c18 k18 m18 e18):KidZ L B (X.alloc (.cells #[.int .i64 x1.cls,.int .i64 x1.tag,.bool x1.cons,.slice a1 n1 c1,.slice k1 m1 e1,.int .i64 x2.cls,.int .i64 x2.tag,.bool x2.cons,.slice a2 n2 c2,.slice k2 m2 e2,.int .i64 x3.cls,.int .i64 x3.tag,.bool x3.cons,.slice a3 n3 c3,.slice k3 m3 e3,.int .i64 x4.cls,.int .i64 x4.tag,.bool x4.cons,.slice a4 n4 c4,.slice k4 m4 e4,.int .i64 x5.cls,.int .i64 x5.tag,.bool x5.cons,.slice a5 n5 c5,.slice k5 m5 e5,.int .i64 x6.cls,.int .i64 x6.tag,.bool x6.cons,.slice a6 n6 c6,.slice k6 m6 e6,.int .i64 x7.cls,.int .i64 x7.tag,.bool x7.cons,.slice a7 n7 c7,.slice k7 m7 e7,.int .i64 x8.cls,.int .i64 x8.tag,.bool x8.cons,.slice a8 n8 c8,.slice k8 m8 e8,.int .i64 x9.cls,.int .i64 x9.tag,.bool x9.cons,.slice a9 n9 c9,.slice k9 m9 e9,.int .i64 x10.cls,.int .i64 x10.tag,.bool x10.cons,.slice a10 n10 c10,.slice k10 m10 e10,.int .i64 x11.cls,.int .i64 x11.tag,.bool x11.cons,.slice a11 n11 c11,.slice k11 m11 e11,.int .i64 x12.cls,.int .i64 x12.tag,.bool x12.cons,.slice a12 n12 c12,.slice k12 m12 e12,.int .i64 x13.cls,.int .i64 x13.tag,.bool x13.cons,.slice a13 n13 c13,.slice k13 m13 e13,.int .i64 x14.cls,.int .i64 x14.tag,.bool x14.cons,.slice a14 n14 c14,.slice k14 m14 e14,.int .i64 x15.cls,.int .i64 x15.tag,.bool x15.cons,.slice a15 n15 c15,.slice k15 m15 e15,.int .i64 x16.cls,.int .i64 x16.tag,.bool x16.cons,.slice a16 n16 c16,.slice k16 m16 e16,.int .i64 x17.cls,.int .i64 x17.tag,.bool x17.cons,.slice a17 n17 c17,.slice k17 m17 e17,.int .i64 x18.cls,.int .i64 x18.tag,.bool x18.cons,.slice a18 n18 c18,.slice k18 m18 e18] t)) X.heap.size (d+1) [x1,x2,x3,x4,x5,x6,x7,x8,x9,x10,x11,x12,x13,x14,x15,x16,x17,x18]:=by
 refine ⟨fun b=>(b<L∨B≤b)∧b<X.heap.size+1,kidsI_n18 (S:=fun b=>(b<L∨B≤b)∧b<X.heap.size) h1.it h2.it h3.it h4.it h5.it h6.it h7.it h8.it h9.it h10.it h11.it h12.it h13.it h14.it h15.it h16.it h17.it h18.it (fun b hb=>⟨hb.1,by have:=hb.2; omega⟩) ⟨.inr hB,by omega⟩ rfl,fun b hb=>⟨hb.1,?_⟩⟩
 have s:(X.alloc (.cells #[.int .i64 x1.cls,.int .i64 x1.tag,.bool x1.cons,.slice a1 n1 c1,.slice k1 m1 e1,.int .i64 x2.cls,.int .i64 x2.tag,.bool x2.cons,.slice a2 n2 c2,.slice k2 m2 e2,.int .i64 x3.cls,.int .i64 x3.tag,.bool x3.cons,.slice a3 n3 c3,.slice k3 m3 e3,.int .i64 x4.cls,.int .i64 x4.tag,.bool x4.cons,.slice a4 n4 c4,.slice k4 m4 e4,.int .i64 x5.cls,.int .i64 x5.tag,.bool x5.cons,.slice a5 n5 c5,.slice k5 m5 e5,.int .i64 x6.cls,.int .i64 x6.tag,.bool x6.cons,.slice a6 n6 c6,.slice k6 m6 e6,.int .i64 x7.cls,.int .i64 x7.tag,.bool x7.cons,.slice a7 n7 c7,.slice k7 m7 e7,.int .i64 x8.cls,.int .i64 x8.tag,.bool x8.cons,.slice a8 n8 c8,.slice k8 m8 e8,.int .i64 x9.cls,.int .i64 x9.tag,.bool x9.cons,.slice a9 n9 c9,.slice k9 m9 e9,.int .i64 x10.cls,.int .i64 x10.tag,.bool x10.cons,.slice a10 n10 c10,.slice k10 m10 e10,.int .i64 x11.cls,.int .i64 x11.tag,.bool x11.cons,.slice a11 n11 c11,.slice k11 m11 e11,.int .i64 x12.cls,.int .i64 x12.tag,.bool x12.cons,.slice a12 n12 c12,.slice k12 m12 e12,.int .i64 x13.cls,.int .i64 x13.tag,.bool x13.cons,.slice a13 n13 c13,.slice k13 m13 e13,.int .i64 x14.cls,.int .i64 x14.tag,.bool x14.cons,.slice a14 n14 c14,.slice k14 m14 e14,.int .i64 x15.cls,.int .i64 x15.tag,.bool x15.cons,.slice a15 n15 c15,.slice k15 m15 e15,.int .i64 x16.cls,.int .i64 x16.tag,.bool x16.cons,.slice a16 n16 c16,.slice k16 m16 e16,.int .i64 x17.cls,.int .i64 x17.tag,.bool x17.cons,.slice a17 n17 c17,.slice k17 m17 e17,.int .i64 x18.cls,.int .i64 x18.tag,.bool x18.cons,.slice a18 n18 c18,.slice k18 m18 e18] t)).heap.size=X.heap.size+1:=by simp
 have:=hb.2
 omega
def flgI (b:Bool):It:=.mk 0 1 false [if b then 255 else 0] []
def parI (x:PT):It:=strI [numI x.attr,bytI (bytesOf x.val)]
def namI (xs:List PT):It:=strI [lstI (xs.map parI)]
def gneI (x:GE):It:=strI [numI x.g.kind,bytI (bytesOf x.g.text),numI x.g.addr,numI x.g.bits,namI x.parts]
def kyI (p:Int × Int × Int):It:=strI [numI p.1,bytI (eightI p.2.1),numI p.2.2]
def mapI (p:Int × Int):It:=strI [numI p.1,numI p.2]
def exI (x:XP):It:=strI [numI x.id,flgI x.crit,bytI x.val]
def ceK (x:CE):List It:=[numI x.ser,namI x.iss,namI x.sub,numI x.frm,numI x.til,kyI x.key,flgI x.ca,numI x.room,numI x.uses,lstI (x.nms.map gneI),lstI (x.per.map gneI),lstI (x.den.map gneI),lstI (x.pol.map numI),lstI (x.maps.map mapI),numI x.need,numI x.nomap,numI x.noany,lstI (x.ext.map exI)]
theorem numberItem_R (n:Int)(L:Nat)(w:World)(h:W64 n) :
  Calls Tryz.prog 101 #[.int .i64 n] w fun e w'=>ItR L w.heap.size 1 (numI n) e w'∧Below w.heap.size w w':=by
 refine (numberItem_agg n w h.1 h.2).mono ?_
 rintro e w1 ⟨g,k,rfl,hge,hr,hb⟩
 exact ⟨⟨_,_,_,_,_,_,rfl,rowZ hr hge 2 (by have:=wsz_bd n; omega)⟩,hb⟩
theorem digestItem_R (v:Int)(L:Nat)(w:World)(h:U64 v) :
  Calls Tryz.prog 155 #[.int .u64 v] w fun e w'=>ItR L w.heap.size 1 (bytI (eightI v)) e w'∧Below w.heap.size w w':=by
 refine (digestItem_agg v w h.1 h.2).mono ?_
 rintro e w1 ⟨g,rfl,hge,hr,hb⟩
 exact ⟨⟨_,_,_,_,_,_,rfl,rowZ hr hge 4 (by decide)⟩,hb⟩
theorem bytesItem_aggC (a:Option Addr)(n c:Nat)(bs:List Int)(w:World) :
  Calls Tryz.prog 60 #[.slice a n c] w fun e w'=>e=.returned (.agg #[.int .i64 0,.int .i64 4,.bool false,.slice a n c,.slice none 0 0])∧Below w.heap.size w w':=bytesItem_any a n c bs w
theorem bytesItem_R (a:Option Addr)(n c:Nat)(bs:List Int)(L:Nat)(w:World)(h:Row w a n bs)(hL:∀ x,a=some x→0<n→x.block<L)(hnil:a=none→c=0)(hn:n≤9223372036854775807) :
  Calls Tryz.prog 60 #[.slice a n c] w fun e w'=>ItR L w.heap.size 1 (bytI bs) e w'∧Below w.heap.size w w':=by
 refine (bytesItem_aggC a n c bs w).mono ?_
 rintro e w1 ⟨rfl,hb⟩
 exact ⟨⟨_,_,_,_,_,_,rfl,row_itz (h.kept hb) hL hnil 4 hn⟩,hb⟩
theorem ItZ.put {L d:Nat}{w w2:World}{x:It}{ab:Option Addr}{nb cb:Nat}{ak:Option Addr}{nk ck:Nat}{B:Nat}(hZ:ItZ L B d w2 x ab nb cb ak nk ck)(hL:L≤w.heap.size)(hB:w.heap.size<B)(u0 u1 u2 u3 u4:Value):ItZ L w.heap.size d (put5I w2 w.heap.size u0 u1 u2 u3 u4) x ab nb cb ak nk ck:=(hZ.touched (put5_touch w2 w.heap.size u0 u1 u2 u3 u4) ⟨hL,hB⟩).mono (Nat.le_of_lt hB)
theorem textItem_R (s:ByteArray)(L:Nat)(w:World)(hs:s.size≤9223372036854775807)(hL:L≤w.heap.size) :
  Calls Tryz.prog 158 #[.string s] w fun e w'=>ItR L w.heap.size 1 (bytI (bytesOf s)) e w'∧Below w.heap.size w w':=by
 have hbx:=box5_below w
 have hsz:=box5_size w
 have HB5:Hid (_=_):=box5_new w
 obtain ⟨cp,W2,hcv,hrow,hb3⟩:=conv_str (w.alloc (.cells #[.int .i64 0,.int .i64 0,.bool false,.slice none 0 0,.slice none 0 0] 75)) s
 have hb3':Below (box5 w).heap.size (box5 w) W2:=hb3
 have HR:Hid (Row W2 (some ⟨w.heap.size+1,0,none⟩) s.size (bytesOf s)):=by
  have h9:Row W2 (some ⟨(box5 w).heap.size,0,none⟩) s.size (bytesOf s):=hrow
  rw [hsz] at h9
  exact h9
 clear hrow hb3
 go_enter Tryz.func158,Tryz.ntmps158
 go_wp2_with fail
 refine (bytesItem_aggC (some ⟨w.heap.size+1,0,none⟩) s.size cp (bytesOf s) W2).mono ?_
 rintro e w2 ⟨rfl,hb2⟩
 have hb23:Below (box5 w).heap.size (box5 w) w2:=keepT hb3' hb2
 have HR2:Hid (Row w2 (some ⟨w.heap.size+1,0,none⟩) s.size (bytesOf s)):=HR.out.kept hb2
 have h5:=below_kept HB5.out hb23
 obtain ⟨_,q0,q1,q2,q3,q4,q5,q6,q7,q8,q9⟩:=Box5.of h5
 have H5:Hid (_=_):=h5
 have B2:Below w.heap.size w w2:=keepT hbx hb23
 clear h5 hb2 hb23 hcv hb3'
 go_wp2_with fail
 try simp only [Exit.inBlock,Exit.then]
 have T:=put5_touch w2 w.heap.size (.int .i64 0) (.int .i64 4) (.bool false) (.slice (some ⟨w.heap.size+1,0,none⟩) s.size cp) (.slice none 0 0)
 have hZ:ItZ L (w.heap.size+1) 1 w2 (bytI (bytesOf s)) (some ⟨w.heap.size+1,0,none⟩) s.size cp none 0 0:=rowZ HR2.out (Nat.le_refl _) 4 hs
 exact bodyPost_ret (results_it rfl _ w.heap.size rfl _ _ _ _ _ _ (put5_heap H5.out _ _ _ _ _)) rfl ⟨⟨_,_,_,_,_,_,rfl,hZ.put hL (by omega) _ _ _ _ _⟩,B2.trans (T.below (Nat.le_refl _) B2.size)⟩
theorem boolTag_R (w:World):Calls Tryz.prog 184 #[.agg #[]] w fun e w'=>e=.returned (.int .i64 1)∧Below w.heap.size w w':=by
 go_enter Tryz.func184,Tryz.ntmps184
 go_wp2
 go_ret
 exact ⟨rfl,(Below.refl _ _).alloc (Nat.le_refl _) _⟩
theorem boolItem_0 (w:World)(L:Nat)(hL:L≤w.heap.size):Calls Tryz.prog 156 #[.agg #[],.agg #[.bool false,.int .i64 0,.slice none 0 0,.slice none 0 0,.slice none 0 0]] w fun e w'=>ItR L w.heap.size 1 (flgI false) e w'∧Below w.heap.size w w':=by
 obtain ⟨wa,hwa⟩:∃ wa,wa=(w.alloc (.cells #[] 188)).alloc (.cells #[.bool false,.int .i64 0,.slice none 0 0,.slice none 0 0,.slice none 0 0] 193):=⟨_,rfl⟩
 have hbA:Below w.heap.size w wa:=by rw [hwa]; exact ((Below.refl _ _).alloc (Nat.le_refl _) _).alloc (by simp) _
 have hsA:wa.heap.size=w.heap.size+1+1:=by rw [hwa]; simp
 obtain ⟨w1,hw1⟩:∃ w1,w1=box5 wa:=⟨_,rfl⟩
 have hbb:Below w.heap.size w w1:=by rw [hw1]; exact keepT hbA (box5_below wa)
 have hsz:w1.heap.size=w.heap.size+3:=by rw [hw1,box5_size,hsA]
 have HB:Hid (w1.heap[w.heap.size+1+1]? = some (.cells #[.int .i64 0,.int .i64 0,.bool false,.slice none 0 0,.slice none 0 0] 75 (0,0))):=by show _=_; rw [← hsA,hw1]; exact box5_new wa
 have HW:Hid (w1=((w.alloc (.cells #[] 188)).alloc (.cells #[.bool false,.int .i64 0,.slice none 0 0,.slice none 0 0,.slice none 0 0] 193)).alloc (.cells #[.int .i64 0,.int .i64 0,.bool false,.slice none 0 0,.slice none 0 0] 75)):=by show _=_; rw [hw1,hwa]; rfl
 clear hw1 hwa hbA hsA
 go_enter Tryz.func156,Tryz.ntmps156
 go_wp2_with fail
 rw [← HW.out]
 clear HW
 refine (boolTag_R w1).mono ?_
 rintro e w2 ⟨rfl,hb2⟩
 have hal:Below w2.heap.size w2 (w2.alloc (.cells #[.int .u8 0] 5)):=(Below.refl _ _).alloc (Nat.le_refl _) _
 have h5:=below_kept (below_kept HB.out hb2) hal
 obtain ⟨_,q0,q1,q2,q3,q4,q5,q6,q7,q8,q9⟩:=Box5.of h5
 have H5:Hid (_=_):=h5
 have B2:Below w.heap.size w (w2.alloc (.cells #[.int .u8 0] 5)):=keepT (keepT hbb hb2) hal
 have hs2:=hb2.size
 have HN:Hid ((w2.alloc (.cells #[.int .u8 0] 5)).heap[w2.heap.size]? = some (.cells #[.int .u8 0] 5 (0,0))):=heap_alloc_new w2 _
 clear h5 hb2 hal
 go_wp2_with fail
 try simp only [Exit.inBlock,Exit.then]
 have T:=put5_touch (w2.alloc (.cells #[.int .u8 0] 5)) (w.heap.size+1+1) (.int .i64 0) (.int .i64 1) (.bool false) (.slice (some ⟨w2.heap.size,0,none⟩) 1 1) (.slice none 0 0)
 have hR:Row (w2.alloc (.cells #[.int .u8 0] 5)) (some ⟨w2.heap.size,0,none⟩) 1 [0]:=by
  refine ⟨rfl,fun k hk=>⟨w2.heap.size,0,rfl,by simp,?_⟩,fun k=>?_⟩
  ·obtain rfl:k=0:=by omega
   exact (cell_of_row _ _ 0 _ 5 (0,0) HN.out).trans rfl
  ·match k with
   | 0=>decide
   | k+1=>simp
 have hZ:ItZ L (w.heap.size+3) 1 (w2.alloc (.cells #[.int .u8 0] 5)) (flgI false) (some ⟨w2.heap.size,0,none⟩) 1 1 none 0 0:=rowZ hR (by omega) 1 (by decide)
 exact bodyPost_ret (results_it rfl _ (w.heap.size+1+1) rfl _ _ _ _ _ _ (put5_heap H5.out _ _ _ _ _)) rfl ⟨⟨_,_,_,_,_,_,rfl,(hZ.touched T ⟨by omega,by omega⟩).mono (by omega)⟩,B2.trans (T.below (by omega) (by have:=B2.size; omega))⟩
theorem boolItem_1 (w:World)(L:Nat)(hL:L≤w.heap.size):Calls Tryz.prog 156 #[.agg #[],.agg #[.bool false,.int .i64 1,.slice none 0 0,.slice none 0 0,.slice none 0 0]] w fun e w'=>ItR L w.heap.size 1 (flgI true) e w'∧Below w.heap.size w w':=by
 obtain ⟨wa,hwa⟩:∃ wa,wa=(w.alloc (.cells #[] 188)).alloc (.cells #[.bool false,.int .i64 1,.slice none 0 0,.slice none 0 0,.slice none 0 0] 193):=⟨_,rfl⟩
 have hbA:Below w.heap.size w wa:=by rw [hwa]; exact ((Below.refl _ _).alloc (Nat.le_refl _) _).alloc (by simp) _
 have hsA:wa.heap.size=w.heap.size+1+1:=by rw [hwa]; simp
 obtain ⟨w1,hw1⟩:∃ w1,w1=box5 wa:=⟨_,rfl⟩
 have hbb:Below w.heap.size w w1:=by rw [hw1]; exact keepT hbA (box5_below wa)
 have hsz:w1.heap.size=w.heap.size+3:=by rw [hw1,box5_size,hsA]
 have HB:Hid (w1.heap[w.heap.size+1+1]? = some (.cells #[.int .i64 0,.int .i64 0,.bool false,.slice none 0 0,.slice none 0 0] 75 (0,0))):=by show _=_; rw [← hsA,hw1]; exact box5_new wa
 have HW:Hid (w1=((w.alloc (.cells #[] 188)).alloc (.cells #[.bool false,.int .i64 1,.slice none 0 0,.slice none 0 0,.slice none 0 0] 193)).alloc (.cells #[.int .i64 0,.int .i64 0,.bool false,.slice none 0 0,.slice none 0 0] 75)):=by show _=_; rw [hw1,hwa]; rfl
 clear hw1 hwa hbA hsA
 go_enter Tryz.func156,Tryz.ntmps156
 go_wp2_with fail
 rw [← HW.out]
 clear HW
 refine (boolTag_R w1).mono ?_
 rintro e w2 ⟨rfl,hb2⟩
 have hal:Below w2.heap.size w2 (w2.alloc (.cells #[.int .u8 255] 5)):=(Below.refl _ _).alloc (Nat.le_refl _) _
 have h5:=below_kept (below_kept HB.out hb2) hal
 obtain ⟨_,q0,q1,q2,q3,q4,q5,q6,q7,q8,q9⟩:=Box5.of h5
 have H5:Hid (_=_):=h5
 have B2:Below w.heap.size w (w2.alloc (.cells #[.int .u8 255] 5)):=keepT (keepT hbb hb2) hal
 have hs2:=hb2.size
 have HN:Hid ((w2.alloc (.cells #[.int .u8 255] 5)).heap[w2.heap.size]? = some (.cells #[.int .u8 255] 5 (0,0))):=heap_alloc_new w2 _
 clear h5 hb2 hal
 go_wp2_with fail
 try simp only [Exit.inBlock,Exit.then]
 have T:=put5_touch (w2.alloc (.cells #[.int .u8 255] 5)) (w.heap.size+1+1) (.int .i64 0) (.int .i64 1) (.bool false) (.slice (some ⟨w2.heap.size,0,none⟩) 1 1) (.slice none 0 0)
 have hR:Row (w2.alloc (.cells #[.int .u8 255] 5)) (some ⟨w2.heap.size,0,none⟩) 1 [255]:=by
  refine ⟨rfl,fun k hk=>⟨w2.heap.size,0,rfl,by simp,?_⟩,fun k=>?_⟩
  ·obtain rfl:k=0:=by omega
   exact (cell_of_row _ _ 0 _ 5 (0,0) HN.out).trans rfl
  ·match k with
   | 0=>decide
   | k+1=>simp
 have hZ:ItZ L (w.heap.size+3) 1 (w2.alloc (.cells #[.int .u8 255] 5)) (flgI true) (some ⟨w2.heap.size,0,none⟩) 1 1 none 0 0:=rowZ hR (by omega) 1 (by decide)
 exact bodyPost_ret (results_it rfl _ (w.heap.size+1+1) rfl _ _ _ _ _ _ (put5_heap H5.out _ _ _ _ _)) rfl ⟨⟨_,_,_,_,_,_,rfl,(hZ.touched T ⟨by omega,by omega⟩).mono (by omega)⟩,B2.trans (T.below (by omega) (by have:=B2.size; omega))⟩
theorem flagItem_R (b:Bool)(w:World)(L:Nat)(hL:L≤w.heap.size):Calls Tryz.prog 104 #[.bool b] w fun e w'=>ItR L w.heap.size 1 (flgI b) e w'∧Below w.heap.size w w':=by
 have hbx:=box5_below w
 have hsz:=box5_size w
 have HB5:Hid (_=_):=box5_new w
 cases b
 ·go_enter Tryz.func104,Tryz.ntmps104
  go_wp2_with fail
  refine (boolItem_0 (box5 w) L (by omega)).mono ?_
  rintro e w2 ⟨⟨ab,nb,cb,ak,nk,ck,rfl,hit⟩,hb2⟩
  have HIT:Hid (_):=hit
  have h5:=below_kept HB5.out hb2
  obtain ⟨_,q0,q1,q2,q3,q4,q5,q6,q7,q8,q9⟩:=Box5.of h5
  have H5:Hid (_=_):=h5
  have B2:Below w.heap.size w w2:=keepT hbx hb2
  clear h5 hb2 hit
  go_wp2_with fail
  try simp only [Exit.inBlock,Exit.then]
  have T:=put5_touch w2 w.heap.size (.int .i64 (flgI false).cls) (.int .i64 (flgI false).tag) (.bool (flgI false).cons) (.slice ab nb cb) (.slice ak nk ck)
  exact bodyPost_ret (results_it rfl _ w.heap.size rfl _ _ _ _ _ _ (put5_heap H5.out _ _ _ _ _)) rfl ⟨⟨_,_,_,_,_,_,rfl,HIT.out.put hL (by omega) _ _ _ _ _⟩,B2.trans (T.below (Nat.le_refl _) B2.size)⟩
 ·go_enter Tryz.func104,Tryz.ntmps104
  go_wp2_with fail
  refine (boolItem_1 (box5 w) L (by omega)).mono ?_
  rintro e w2 ⟨⟨ab,nb,cb,ak,nk,ck,rfl,hit⟩,hb2⟩
  have HIT:Hid (_):=hit
  have h5:=below_kept HB5.out hb2
  obtain ⟨_,q0,q1,q2,q3,q4,q5,q6,q7,q8,q9⟩:=Box5.of h5
  have H5:Hid (_=_):=h5
  have B2:Below w.heap.size w w2:=keepT hbx hb2
  clear h5 hb2 hit
  go_wp2_with fail
  try simp only [Exit.inBlock,Exit.then]
  have T:=put5_touch w2 w.heap.size (.int .i64 (flgI true).cls) (.int .i64 (flgI true).tag) (.bool (flgI true).cons) (.slice ab nb cb) (.slice ak nk ck)
  exact bodyPost_ret (results_it rfl _ w.heap.size rfl _ _ _ _ _ _ (put5_heap H5.out _ _ _ _ _)) rfl ⟨⟨_,_,_,_,_,_,rfl,HIT.out.put hL (by omega) _ _ _ _ _⟩,B2.trans (T.below (Nat.le_refl _) B2.size)⟩
theorem structItem_R {L R d n:Nat}{gr:Nat}{ks:List It}{w:World}(h:KidZ L R w gr d ks)(hn:ks.length=n) :
  Calls Tryz.prog 152 #[.slice (some ⟨gr,0,none⟩) n n] w fun e w'=>ItR L R d (strI ks) e w'∧Below w.heap.size w w':=by
 subst hn
 refine (structItem_agg (some ⟨gr,0,none⟩) ks.length ks.length w).mono ?_
 rintro e w1 ⟨rfl,hb⟩
 exact ⟨⟨_,_,_,_,_,_,rfl,(h.kept hb).itz 0 16⟩,hb⟩
theorem ownItem_R {L R d n:Nat}{gr:Nat}{ks:List It}{w:World}(tag:Int)(h:KidZ L R w gr d ks)(hn:ks.length=n) :
  Calls Tryz.prog 59 #[.int .i64 tag,.slice (some ⟨gr,0,none⟩) n n] w fun e w'=>ItR L R d (boxI tag ks) e w'∧Below w.heap.size w w':=by
 subst hn
 refine (ownItem_agg tag (some ⟨gr,0,none⟩) ks.length ks.length w).mono ?_
 rintro e w1 ⟨rfl,hb⟩
 exact ⟨⟨_,_,_,_,_,_,rfl,(h.kept hb).itz 1 tag⟩,hb⟩
open Go.RowKit
theorem OwnU.set {B:Nat}{w:World}{a:Option Addr}{n cap:Nat}{zs:List Int}(h:OwnU B w a n cap zs){g:Nat}(hg:g<B)(i:Nat)(v:Value):OwnU B (w.setCell ⟨g,i,none⟩ v) a n cap zs:=by
 refine ⟨⟨h.row.1,?_⟩,h.rng⟩
 rcases h.row.2 with h | ⟨g',cap',cur,hv,hb,hh,r⟩
 ·exact .inl h
 ·exact .inr ⟨g',cap',cur,hv,hb,(Below.heap_setCell _ _ _ _ (by simp; omega)).trans hh,r⟩
end Go.Proofs.YtmdfbnlgfhjnoaaGreatDoor
