import Derived.Deep.AppendLies
import Derived.ArgAppend
import Derived.Test.YtmdfbnlgfhjnoaaGreatDoorFA21
import Derived.Test.YtmdfbnlgfhjnoaaGreatDoorFA15
import Derived.Test.YtmdfbnlgfhjnoaaGreatDoorFA22
import Derived.Test.YtmdfbnlgfhjnoaaGreatDoorFA25
import Derived.Test.YtmdfbnlgfhjnoaaGreatDoorFA19
import Derived.OpenShut
import Derived.Test.YtmdfbnlgfhjnoaaGreatDoorFA20
set_option maxRecDepth 10000
set_option maxHeartbeats 8000000
set_option linter.unusedVariables false
namespace Go.Proofs.YtmdfbnlgfhjnoaaGreatDoor
open Go.RowKit Go.Sort
theorem opw_buildSliceT {P:Program}{Q:Exit→Act→World→Prop}{o:Oper}{a:Act}{w:World}{K:Act→World→Prop}(t:TypeId)(n:Nat)(parts:Array (Nat × Operand))(ho:o.op=.buildSlice t n parts)(vs:Array (Nat × Value))(hvs:(parts.map fun p=>(p.1,a.eval p.2))=vs)(v:Value)(w':World)
  (hr:(Instr.buildSlice t n vs).run P w=.ok v w') (h:K (a.put o.dst v) w'):o.wp P a w K Q:=by
 refine opw_value v ?_ h
 have hvs':(parts.map fun x:Nat × Operand=>match x with | (i,x)=>(i,a.eval x))=vs:=hvs
 unfold execOp
 simp only [ho]
 rw [hvs']
 simp [hr]
theorem Row.atG {w:World}{g k n:Nat}{bs:List Int}(h:Row w (some ⟨g,k,none⟩) n bs):RowI (fun b=>b=g) w (some ⟨g,k,none⟩) n bs:=⟨h,fun x hx _=>by injection hx with hx; rw [← hx]⟩
theorem structItem_agg (a:Option Addr)(n c:Nat)(w:World) :
  Calls Tryz.prog 152 #[.slice a n c] w fun e w'=>e=.returned (.agg #[.int .i64 0,.int .i64 16,.bool true,.slice none 0 0,.slice a n c])∧Below w.heap.size w w':=by
 go_enter Tryz.func152,Tryz.ntmps152
 go_wp2_with fail
 try simp only [Exit.inBlock,Exit.then]
 exact bodyPost_ret (results_it rfl _ w.heap.size rfl _ _ _ _ _ _ (heap_alloc_new w _)) rfl ⟨rfl,(Below.refl _ _).alloc (Nat.le_refl _) _⟩
theorem Tryz.infoIt:(Tryz.prog.info? 75).map (fun i=>(i.zero,i.size,i.bytes))=some (some (.agg #[.int .i64 0,.int .i64 0,.bool false,.slice none 0 0,.slice none 0 0]),5,72):=by kernel_rfl
def RSpec.free2 (S:RSpec)(i d:Nat):Bool:=(List.range S.n).all fun k=>k == i || S.slot k != d || (S.pre k).contains i || (S.kill k).contains i
theorem RSpec.free2_of {S:RSpec}{i d:Nat}(h:S.free2 i d=true){k:Nat}(hk:k<S.n)(hne:k≠i)(hs:S.slot k=d):i∈S.pre k∨i∈S.kill k:=by
 have:=List.all_eq_true.1 h k (List.mem_range.2 hk)
 simpa [hne,hs] using this
theorem RI.turn {S:RSpec}{D:List Nat}{B:Nat}{w0:World}{a0:Act}{l:Nat→Bool}{a:Act}{w:World}(h:RI S D B w0 a0 l a w)(i d:Nat){v:Value}{w':World}(hpre:∀ j∈S.pre i,l j=true)
  (hd:D.contains d=true) (hs:d<a0.tmps.size) (hsl:S.slot i=d) (hli:l i=false) (hne:S.free2 i d=true) (hb:Below B w0 w')
  (hst:∀ k,k<S.n→k≠i→l k=true→(∀ j∈S.kill k,upd l i j=false)→∀ u,S.fact k u w→S.fact k u w') (hf:S.fact i v w'):RI S D B w0 a0 (upd l i) (a.put (some d) v) w':=by
 refine ⟨h.fr.put (List.contains_iff_mem.1 hd) v,hb,fun k hk=>upd_mono (h.vt k hk),fun k hk hl j hj=>?_,fun k hk hl hkill=>?_⟩
 ·by_cases e:k=i
  ·subst e
   exact upd_mono (hpre j hj)
  ·rw [upd_ne e] at hl
   exact upd_mono (h.cl k hk hl j hj)
 ·by_cases e:k=i
  ·subst e
   rw [hsl,aT_put_eq (by rw [h.fr.size]; exact hs)]
   exact hf
  ·rw [upd_ne e] at hl
   have hsk:S.slot k≠d:=fun e2=>by
    rcases S.free2_of hne hk e e2 with h1 | h1
    ·have:=h.cl k hk hl i h1
     rw [hli] at this
     cases this
    ·have:=hkill i h1
     rw [upd_same] at this
     cases this
   rw [aT_put_ne (Ne.symm hsk)]
   exact hst k hk e hl hkill _ (h.fact k hk hl (fun j hj=>of_upd (hkill j hj)))
theorem RI.putp {S:RSpec}{D:List Nat}{B:Nat}{w0:World}{a0:Act}{l:Nat→Bool}{a:Act}{w:World}(h:RI S D B w0 a0 l a w)(i d:Nat){v:Value}{w':World}(hpre:∀ j∈S.pre i,l j=true)
  (hd:D.contains d=true) (hs:d<a0.tmps.size) (hsl:S.slot i=d) (hli:l i=false) (hne:S.free2 i d=true) (hB:B≤w0.heap.size)
  (hst:∀ k,k<S.n→StB (S.fact k)) (hb:Below w.heap.size w w') (hf:S.fact i v w'):RI S D B w0 a0 (upd l i) (a.put (some d) v) w' :=
 h.turn i d hpre hd hs hsl hli hne (h.bel.trans (hb.mono (Nat.le_trans hB h.bel.size))) (fun k hk _ _ _ u hu=>hst k hk _ _ _ hu hb) hf
theorem unT {b:Bool}(h:b=true→False):b=false:=by
 cases b with
 | false=>rfl
 | true=>exact (h rfl).elim
theorem opw_indexY {P:Program}{Q:Exit→Act→World→Prop}{o:Oper}{a:Act}{w:World}{K:Act→World→Prop}(t:TypeId)(x y:Nat)(ho:o.op=.indexAddr t (.tmp x) (.tmp y))(p q:Value)(hx:aT a x=p)(hy:aT a y=q)(v:Value)(hr:(Instr.indexAt t p q).run P w=.ok v w)(h:K (a.put o.dst v) w):o.wp P a w K Q:=by
 refine opw_value v ?_ h
 have hx':a.eval (.tmp x)=p:=hx
 have hy':a.eval (.tmp y)=q:=hy
 unfold execOp
 simp [ho,hx',hy',hr]
theorem l2BoxC_agg (cls tag:Int)(a:Option Addr)(n c:Nat)(w:World) :
  Calls Tryz.prog 84 #[.int .i64 cls,.int .i64 tag,.slice a n c] w fun e w'=>e=.returned (.agg #[.int .i64 cls,.int .i64 tag,.bool true,.slice none 0 0,.slice a n c])∧Below w.heap.size w w':=by
 go_enter Tryz.func84,Tryz.ntmps84
 go_wp2_with fail
 try simp only [Exit.inBlock,Exit.then]
 exact bodyPost_ret (results_it rfl _ w.heap.size rfl _ _ _ _ _ _ (heap_alloc_new w _)) rfl ⟨rfl,(Below.refl _ _).alloc (Nat.le_refl _) _⟩
theorem l9Struct_agg (a:Option Addr)(n c:Nat)(w:World) :
  Calls Tryz.prog 80 #[.slice a n c] w fun e w'=>e=.returned (.agg #[.int .i64 0,.int .i64 16,.bool true,.slice none 0 0,.slice a n c])∧Below w.heap.size w w':=by
 have hbx:=box5_below w
 have HB5:Hid (_=_):=box5_new w
 go_enter Tryz.func80,Tryz.ntmps80
 go_wp2_with fail
 refine (l2BoxC_agg 0 16 a n c (box5 w)).mono ?_
 rintro e w2 ⟨rfl,hb2⟩
 have h5:=below_kept HB5.out hb2
 obtain ⟨_,q0,q1,q2,q3,q4,q5,q6,q7,q8,q9⟩:=Box5.of h5
 have H5:Hid (_=_):=h5
 have B2:Below w.heap.size w w2:=keepT hbx hb2
 clear h5 hb2
 go_wp2_with fail
 try simp only [Exit.inBlock,Exit.then]
 have T:=put5_touch w2 w.heap.size (.int .i64 0) (.int .i64 16) (.bool true) (.slice none 0 0) (.slice a n c)
 exact bodyPost_ret (results_it rfl _ w.heap.size rfl _ _ _ _ _ _ (put5_heap H5.out _ _ _ _ _)) rfl ⟨rfl,B2.trans (T.below (Nat.le_refl _) B2.size)⟩
theorem l9List_agg (a:Option Addr)(n c:Nat)(w:World) :
  Calls Tryz.prog 89 #[.slice a n c] w fun e w'=>e=.returned (.agg #[.int .i64 0,.int .i64 17,.bool true,.slice none 0 0,.slice a n c])∧Below w.heap.size w w':=by
 have hbx:=box5_below w
 have HB5:Hid (_=_):=box5_new w
 go_enter Tryz.func89,Tryz.ntmps89
 go_wp2_with fail
 refine (l2BoxC_agg 0 17 a n c (box5 w)).mono ?_
 rintro e w2 ⟨rfl,hb2⟩
 have h5:=below_kept HB5.out hb2
 obtain ⟨_,q0,q1,q2,q3,q4,q5,q6,q7,q8,q9⟩:=Box5.of h5
 have H5:Hid (_=_):=h5
 have B2:Below w.heap.size w w2:=keepT hbx hb2
 clear h5 hb2
 go_wp2_with fail
 try simp only [Exit.inBlock,Exit.then]
 have T:=put5_touch w2 w.heap.size (.int .i64 0) (.int .i64 17) (.bool true) (.slice none 0 0) (.slice a n c)
 exact bodyPost_ret (results_it rfl _ w.heap.size rfl _ _ _ _ _ _ (put5_heap H5.out _ _ _ _ _)) rfl ⟨rfl,B2.trans (T.below (Nat.le_refl _) B2.size)⟩
theorem Own.itv1 {B:Nat}{w:World}{a:Option Addr}{n c:Nat}{bs:List Int}(h:Own B w a n c bs)(t:Int)(hn:n≤9223372036854775807):ItV 1 (fun b=>B≤b∧b<w.heap.size) w (.mk 0 t false bs []) a n c none 0 0:=⟨h.toI,h.nil,hn,KidsI.none 0 _ _ _⟩
theorem kidsI_n2 {d:Nat}{S:Nat→Prop}{X:World}{x1 x2:It}{a1:Option Addr}{n1 c1:Nat}{k1:Option Addr}{m1 e1:Nat}{a2:Option Addr}{n2 c2:Nat}{k2:Option Addr}{m2 e2:Nat}(h1:ItV d S X x1 a1 n1 c1 k1 m1 e1)(h2:ItV d S X x2 a2 n2 c2 k2 m2 e2){T:Nat→Prop}(hs:∀ b,S b→T b)(hT:T X.heap.size){W:World}{t:Nat}(hW:W=X.alloc (.cells #[.int .i64 x1.cls,.int .i64 x1.tag,.bool x1.cons,.slice a1 n1 c1,.slice k1 m1 e1,.int .i64 x2.cls,.int .i64 x2.tag,.bool x2.cons,.slice a2 n2 c2,.slice k2 m2 e2] t)):KidsI (d+1) T W (some ⟨X.heap.size,0,none⟩) 2 [x1,x2]:=by
 subst hW
 have hb:Below X.heap.size X (X.alloc (.cells #[.int .i64 x1.cls,.int .i64 x1.tag,.bool x1.cons,.slice a1 n1 c1,.slice k1 m1 e1,.int .i64 x2.cls,.int .i64 x2.tag,.bool x2.cons,.slice a2 n2 c2,.slice k2 m2 e2] t)):=(Below.refl _ _).alloc (Nat.le_refl _) _
 have hc:=fun j=>cell_of_row _ X.heap.size j _ t (0,0) (heap_alloc_new X (.cells #[.int .i64 x1.cls,.int .i64 x1.tag,.bool x1.cons,.slice a1 n1 c1,.slice k1 m1 e1,.int .i64 x2.cls,.int .i64 x2.tag,.bool x2.cons,.slice a2 n2 c2,.slice k2 m2 e2] t))
 have g1:=(h1.kept hb).mono hs
 have g2:=(h2.kept hb).mono hs
 refine ⟨rfl,by decide,fun k hk=>⟨X.heap.size,0,rfl,by simp,hT,?_⟩⟩
 rcases (show k=0∨k=1 by omega) with rfl | rfl
 ·exact ⟨a1,n1,c1,k1,m1,e1,(hc 0).trans rfl,(hc 1).trans rfl,(hc 2).trans rfl,(hc 3).trans rfl,(hc 4).trans rfl,g1.row,g1.nil,g1.max,g1.kids⟩
 ·exact ⟨a2,n2,c2,k2,m2,e2,(hc 5).trans rfl,(hc 6).trans rfl,(hc 7).trans rfl,(hc 8).trans rfl,(hc 9).trans rfl,g2.row,g2.nil,g2.max,g2.kids⟩
theorem kidsI_n3 {d:Nat}{S:Nat→Prop}{X:World}{x1 x2 x3:It}{a1:Option Addr}{n1 c1:Nat}{k1:Option Addr}{m1 e1:Nat}{a2:Option Addr}{n2 c2:Nat}{k2:Option Addr}{m2 e2:Nat}{a3:Option Addr}{n3 c3:Nat}{k3:Option Addr}{m3 e3:Nat}(h1:ItV d S X x1 a1 n1 c1 k1 m1 e1)(h2:ItV d S X x2 a2 n2 c2 k2 m2 e2)(h3:ItV d S X x3 a3 n3 c3 k3 m3 e3){T:Nat→Prop}(hs:∀ b,S b→T b)(hT:T X.heap.size){W:World}{t:Nat}(hW:W=X.alloc (.cells #[.int .i64 x1.cls,.int .i64 x1.tag,.bool x1.cons,.slice a1 n1 c1,.slice k1 m1 e1,.int .i64 x2.cls,.int .i64 x2.tag,.bool x2.cons,.slice a2 n2 c2,.slice k2 m2 e2,.int .i64 x3.cls,.int .i64 x3.tag,.bool x3.cons,.slice a3 n3 c3,.slice k3 m3 e3] t)):KidsI (d+1) T W (some ⟨X.heap.size,0,none⟩) 3 [x1,x2,x3]:=by
 subst hW
 have hb:Below X.heap.size X (X.alloc (.cells #[.int .i64 x1.cls,.int .i64 x1.tag,.bool x1.cons,.slice a1 n1 c1,.slice k1 m1 e1,.int .i64 x2.cls,.int .i64 x2.tag,.bool x2.cons,.slice a2 n2 c2,.slice k2 m2 e2,.int .i64 x3.cls,.int .i64 x3.tag,.bool x3.cons,.slice a3 n3 c3,.slice k3 m3 e3] t)):=(Below.refl _ _).alloc (Nat.le_refl _) _
 have hc:=fun j=>cell_of_row _ X.heap.size j _ t (0,0) (heap_alloc_new X (.cells #[.int .i64 x1.cls,.int .i64 x1.tag,.bool x1.cons,.slice a1 n1 c1,.slice k1 m1 e1,.int .i64 x2.cls,.int .i64 x2.tag,.bool x2.cons,.slice a2 n2 c2,.slice k2 m2 e2,.int .i64 x3.cls,.int .i64 x3.tag,.bool x3.cons,.slice a3 n3 c3,.slice k3 m3 e3] t))
 have g1:=(h1.kept hb).mono hs
 have g2:=(h2.kept hb).mono hs
 have g3:=(h3.kept hb).mono hs
 refine ⟨rfl,by decide,fun k hk=>⟨X.heap.size,0,rfl,by simp,hT,?_⟩⟩
 rcases (show k=0∨k=1∨k=2 by omega) with rfl | rfl | rfl
 ·exact ⟨a1,n1,c1,k1,m1,e1,(hc 0).trans rfl,(hc 1).trans rfl,(hc 2).trans rfl,(hc 3).trans rfl,(hc 4).trans rfl,g1.row,g1.nil,g1.max,g1.kids⟩
 ·exact ⟨a2,n2,c2,k2,m2,e2,(hc 5).trans rfl,(hc 6).trans rfl,(hc 7).trans rfl,(hc 8).trans rfl,(hc 9).trans rfl,g2.row,g2.nil,g2.max,g2.kids⟩
 ·exact ⟨a3,n3,c3,k3,m3,e3,(hc 10).trans rfl,(hc 11).trans rfl,(hc 12).trans rfl,(hc 13).trans rfl,(hc 14).trans rfl,g3.row,g3.nil,g3.max,g3.kids⟩
def W64 (n:Int):Prop:=-9223372036854775808≤n∧n≤9223372036854775807
structure OwnT (B:Nat)(w:World)(a:Option Addr)(n c:Nat)(bs:List Int):Prop where
 own:Own B w a n c bs
theorem OwnT.kept {B:Nat}{w w':World}{a:Option Addr}{n c:Nat}{bs:List Int}(h:OwnT B w a n c bs)(hb:Below w.heap.size w w'):OwnT B w' a n c bs:=⟨h.own.kept hb⟩
theorem OwnT.touched {B gb:Nat}{w w':World}{a:Option Addr}{n c:Nat}{bs:List Int}(h:OwnT B w a n c bs)(ht:Touch gb (gb+1) w w')(hlt:gb<B):OwnT B w' a n c bs:=⟨h.own.touch5 ht (by omega)⟩
open Go.RowKit Go.Sort
def KidZ (L B:Nat)(w:World)(g d:Nat)(ks:List It):Prop:=∃ S:Nat→Prop,KidsI d S w (some ⟨g,0,none⟩) ks.length ks∧∀ b,S b→(b<L∨B≤b)∧b<w.heap.size
theorem KidZ.kept {L:Nat}{B:Nat}{w w':World}{g d:Nat}{ks:List It}(h:KidZ L B w g d ks)(hb:Below w.heap.size w w'):KidZ L B w' g d ks:=by
 obtain ⟨S,h1,h2⟩:=h
 exact ⟨S,h1.touch (P:=fun _=>False) (fun _ _ h=>h) (TouchX.of_below hb),fun b hs=>⟨(h2 b hs).1,Nat.lt_of_lt_of_le (h2 b hs).2 hb.size⟩⟩
theorem KidZ.touched {L:Nat}{B:Nat}{w w':World}{g d gb:Nat}{ks:List It}(h:KidZ L B w g d ks)(ht:Touch gb (gb+1) w w')(hlt:L≤gb∧gb<B):KidZ L B w' g d ks:=by
 obtain ⟨S,h1,h2⟩:=h
 exact ⟨S,h1.touch (fun b hb e=>by have:=(h2 b hb).1; omega) ht.toX,fun b hs=>⟨(h2 b hs).1,Nat.lt_of_lt_of_le (h2 b hs).2 ht.size⟩⟩
def OwnItZ (d L R:Nat)(w:World)(a:Option Addr)(n c:Nat)(xs:List It):Prop:=OwnIts d (fun b=>(b<L∨R≤b)∧b<w.heap.size∧(Value.slice a n c).ownBlock≠some b) w a n c xs∧∀ b,(Value.slice a n c).ownBlock=some b→R≤b
theorem ownItZ_none (d L R:Nat)(w:World):OwnItZ d L R w none 0 0 []:=⟨(OwnIts.nil d w).mono (fun _ h=>h.elim) (fun b hb=>by cases hb),fun b hb=>by cases hb⟩
theorem OwnItZ.kept {L:Nat}{d R:Nat}{w w':World}{a:Option Addr}{n c:Nat}{xs:List It}(h:OwnItZ d L R w a n c xs)(hb:Below w.heap.size w w'):OwnItZ d L R w' a n c xs :=
 ⟨(h.1.kept hb).mono (fun k hk=>⟨hk.1,Nat.lt_of_lt_of_le hk.2.1 hb.size,hk.2.2⟩) (fun b hb hc=>hc.2.2 hb),h.2⟩
theorem OwnItZ.appended {L:Nat}{d R:Nat}{w1 w:World}{a:Option Addr}{n c:Nat}{xs:List It}{y:It}{ab:Option Addr}{nb cb:Nat}{ak:Option Addr}{nk ck:Nat}{g' c':Nat}{T:Nat→Prop}
  (h:OwnItZ d L R w a n c xs) (hy:ItV d T w y ab nb cb ak nk ck) (hT:∀ b,T b→(b<L∨R≤b)∧b<w.heap.size∧(Value.slice a n c).ownBlock≠some b) (hn:n+1≤9223372036854775807)
  {vs:List Value} (hv0:w.ownsRow 0 75 5 (.slice a n c) n vs) (hv:w1.ownsRow 0 75 5 (.slice (some ⟨g',0,none⟩) (n+1) c') (n+1) (vs++itc y ab nb cb ak nk ck)) (hg:w.grownBy w1 (Value.slice a n c).ownBlock) (hl:(Value.slice a n c).ownBlock=some g'∨g'=w.heap.size) (hR:R≤w.heap.size):OwnItZ d L R w1 (some ⟨g',0,none⟩) (n+1) c' (xs++[y]):=by
 refine ⟨((h.1.appended (hy.mono hT) (fun b hb=>hb) (fun b hb hc=>hc.2.2 hb) (fun b hb=>hb.2.1) hn hv0 hv hg hl)).mono (fun k hk=>⟨hk.1,Nat.lt_of_lt_of_le hk.2.1 hg.size,fun e=>?_⟩) (fun b hb hc=>hc.2.2 hb),fun b hb=>?_⟩
 ·have e2:g'=k:=by injection e
  rcases hl with hl | hl
  ·exact hk.2.2 (by rw [hl,e2])
  ·have:=hk.2.1
   omega
 ·have e2:g'=b:=by injection hb
  rcases hl with hl | hl
  ·rw [← e2]; exact h.2 g' hl
  ·omega
theorem OwnItZ.row {L:Nat}{d R:Nat}{w:World}{a:Option Addr}{n c:Nat}{xs:List It}(h:OwnItZ d L R w a n c xs):∃ vs,w.ownsRow 0 75 5 (.slice a n c) n vs:=by
 obtain ⟨vs,h1,_⟩:=h.1.own
 exact ⟨vs,h1⟩
theorem OwnItZ.kids {L:Nat}{d R:Nat}{w:World}{a:Option Addr}{n c:Nat}{xs:List It}(h:OwnItZ d L R w a n c xs):KidsI (d+1) (fun b=>(b<L∨R≤b)∧b<w.heap.size) w a n xs:=by
 obtain ⟨vs,hv⟩:=h.row
 exact h.1.kids (fun k hk=>⟨hk.1,hk.2.1⟩) (fun b hb=>⟨.inr (h.2 b hb),(hv.lt b hb).2⟩)
theorem KidZ.grown {L:Nat}{R:Nat}{w w':World}{g d:Nat}{ks:List It}{row:Option Nat}(h:KidZ L R w g d ks)(hg:w.grownBy w' row)(hlt:∀ j,row=some j→L≤j∧j<R):KidZ L R w' g d ks:=by
 obtain ⟨S,h1,h2⟩:=h
 exact ⟨S,h1.touch (fun k hk e=>by have:=hlt k e; have:=(h2 k hk).1; omega) (touchX_g hg (P:=fun k=>row=some k) (fun k hk=>hk)),fun b hb=>⟨(h2 b hb).1,Nat.lt_of_lt_of_le (h2 b hb).2 hg.size⟩⟩
structure ItZ (L B d:Nat)(w:World)(x:It)(ab:Option Addr)(nb cb:Nat)(ak:Option Addr)(nk ck:Nat):Prop where
 it:ItV d (fun b=>(b<L∨B≤b)∧b<w.heap.size) w x ab nb cb ak nk ck
theorem ItZ.kept {L:Nat}{B d:Nat}{w w':World}{x:It}{ab:Option Addr}{nb cb:Nat}{ak:Option Addr}{nk ck:Nat}(h:ItZ L B d w x ab nb cb ak nk ck)(hb:Below w.heap.size w w'):ItZ L B d w' x ab nb cb ak nk ck:=⟨(h.it.kept hb).mono (fun b hs=>⟨hs.1,Nat.lt_of_lt_of_le hs.2 hb.size⟩)⟩
theorem ItZ.touched {L:Nat}{B d gb:Nat}{w w':World}{x:It}{ab:Option Addr}{nb cb:Nat}{ak:Option Addr}{nk ck:Nat}(h:ItZ L B d w x ab nb cb ak nk ck)(ht:Touch gb (gb+1) w w')(hlt:L≤gb∧gb<B):ItZ L B d w' x ab nb cb ak nk ck:=⟨(h.it.touch (fun b hs e=>by have:=hs.1; omega) ht.toX).mono (fun b hs=>⟨hs.1,Nat.lt_of_lt_of_le hs.2 ht.size⟩)⟩
theorem ItZ.mono {L:Nat}{B B' d:Nat}{w:World}{x:It}{ab:Option Addr}{nb cb:Nat}{ak:Option Addr}{nk ck:Nat}(h:ItZ L B d w x ab nb cb ak nk ck)(hB:B'≤B):ItZ L B' d w x ab nb cb ak nk ck:=⟨h.it.mono (fun b hs=>⟨by have:=hs.1; omega,hs.2⟩)⟩
theorem ItZ.more {L:Nat}{B d:Nat}{w:World}{x:It}{ab:Option Addr}{nb cb:Nat}{ak:Option Addr}{nk ck:Nat}(h:ItZ L B d w x ab nb cb ak nk ck):ItZ L B (d+1) w x ab nb cb ak nk ck:=⟨h.it.more⟩
theorem KidZ.itz {L:Nat}{B:Nat}{w:World}{g d ck:Nat}{ks:List It}(h:KidZ L B w g d ks)(cls tag:Int):ItZ L B d w (.mk cls tag true [] ks) none 0 0 (some ⟨g,0,none⟩) ks.length ck:=by
 obtain ⟨S,h1,h2⟩:=h
 exact ⟨⟨⟨⟨rfl,fun j hj=>absurd hj (Nat.not_lt_zero _),by simp [It.body]⟩,fun x hx=>by cases hx⟩,fun _=>rfl,by decide,h1.mono h2⟩⟩
structure ListZ (L B d:Nat)(w:World)(ao:Option Addr)(n:Nat)(ks:List It):Prop where
 kids:KidsI d (fun b=>(b<L∨B≤b)∧b<w.heap.size) w ao n ks
theorem ListZ.kept {L:Nat}{B d:Nat}{w w':World}{ao:Option Addr}{n:Nat}{ks:List It}(h:ListZ L B d w ao n ks)(hb:Below w.heap.size w w'):ListZ L B d w' ao n ks:=⟨(h.kids.touch (P:=fun _=>False) (fun _ _ h=>h) (TouchX.of_below hb)).mono (fun b hs=>⟨hs.1,Nat.lt_of_lt_of_le hs.2 hb.size⟩)⟩
theorem ListZ.touched {L:Nat}{B d gb:Nat}{w w':World}{ao:Option Addr}{n:Nat}{ks:List It}(h:ListZ L B d w ao n ks)(ht:Touch gb (gb+1) w w')(hlt:L≤gb∧gb<B):ListZ L B d w' ao n ks:=⟨(h.kids.touch (fun b hs e=>by have:=hs.1; omega) ht.toX).mono (fun b hs=>⟨hs.1,Nat.lt_of_lt_of_le hs.2 ht.size⟩)⟩
theorem ListZ.itz {L:Nat}{B d:Nat}{w:World}{ao:Option Addr}{n co:Nat}{ks:List It}(h:ListZ L B d w ao n ks):ItZ L B d w (lstI ks) none 0 0 ao n co:=⟨⟨⟨⟨rfl,fun j hj=>absurd hj (Nat.not_lt_zero _),by simp [lstI,It.body]⟩,fun x hx=>by cases hx⟩,fun _=>rfl,by decide,h.kids⟩⟩
theorem kidZ_n2 {L:Nat}{B d:Nat}{X:World}{x1 x2:It}{a1:Option Addr}{n1 c1:Nat}{k1:Option Addr}{m1 e1:Nat}{a2:Option Addr}{n2 c2:Nat}{k2:Option Addr}{m2 e2:Nat}{t:Nat}(hB:B≤X.heap.size)(h1:ItZ L B d X x1 a1 n1 c1 k1 m1 e1)(h2:ItZ L B d X x2 a2 n2 c2 k2 m2 e2):KidZ L B (X.alloc (.cells #[.int .i64 x1.cls,.int .i64 x1.tag,.bool x1.cons,.slice a1 n1 c1,.slice k1 m1 e1,.int .i64 x2.cls,.int .i64 x2.tag,.bool x2.cons,.slice a2 n2 c2,.slice k2 m2 e2] t)) X.heap.size (d+1) [x1,x2]:=by
 refine ⟨fun b=>(b<L∨B≤b)∧b<X.heap.size+1,kidsI_n2 (S:=fun b=>(b<L∨B≤b)∧b<X.heap.size) h1.it h2.it (fun b hb=>⟨hb.1,by have:=hb.2; omega⟩) ⟨.inr hB,by omega⟩ rfl,fun b hb=>⟨hb.1,?_⟩⟩
 have s:(X.alloc (.cells #[.int .i64 x1.cls,.int .i64 x1.tag,.bool x1.cons,.slice a1 n1 c1,.slice k1 m1 e1,.int .i64 x2.cls,.int .i64 x2.tag,.bool x2.cons,.slice a2 n2 c2,.slice k2 m2 e2] t)).heap.size=X.heap.size+1:=by simp
 have:=hb.2
 omega
theorem ItZ.grown {L:Nat}{B d:Nat}{w w':World}{x:It}{ab:Option Addr}{nb cb:Nat}{ak:Option Addr}{nk ck:Nat}{row:Option Nat}(h:ItZ L B d w x ab nb cb ak nk ck)(hg:w.grownBy w' row)(hlt:∀ j,row=some j→L≤j∧j<B):ItZ L B d w' x ab nb cb ak nk ck :=
 ⟨(h.it.touch (fun k hk e=>by have:=hlt k e; have:=hk.1; omega) (touchX_g hg (P:=fun k=>row=some k) (fun k hk=>hk))).mono (fun b hs=>⟨hs.1,Nat.lt_of_lt_of_le hs.2 hg.size⟩)⟩
theorem row_itz {L B:Nat}{w:World}{a:Option Addr}{n c:Nat}{bs:List Int}(h:Row w a n bs)(hL:∀ x,a=some x→0<n→x.block<L)(hnil:a=none→c=0)(t:Int)(hn:n≤9223372036854775807):ItZ L B 1 w (.mk 0 t false bs []) a n c none 0 0:=by
 refine ⟨⟨⟨h,fun x hx h0=>?_⟩,hnil,hn,KidsI.none 0 _ _ _⟩⟩
 obtain ⟨b,off,ha,hlt,_⟩:=h.get 0 h0
 refine ⟨.inl (hL x hx h0),?_⟩
 rw [ha] at hx
 injection hx with hx
 rw [← hx]
 exact hlt
open Go.RowKit
theorem stab_ge {B g n:Nat}{xs:List GE}(hB:B≤g):Stab B (fun W=>GePre W g n xs):=fun W W' e s h j hj=>by
 obtain ⟨gn,nn,h1,h3,h4⟩:=h j hj
 have hlt:g<W.heap.size:=World.block_lt_of_cell? W _ h3.c0
 exact ⟨gn,nn,h1,h3.of (fun i=>by simp [World.cell?,e g hB hlt]),pts_move (by omega) W W' e s h4⟩
open Go.ChangeShapes Go.WideShapes Go.ChangeAt Go.RowKit
def OpensE (W:World)(y:Option Addr × Nat × Nat × GE)(cs:List Value):Prop:=cs = [.int .i64 y.2.2.2.g.kind,.string y.2.2.2.g.text,.int .i64 y.2.2.2.g.addr,.int .i64 y.2.2.2.g.bits,.slice y.1 y.2.1 y.2.2.1]∧Pts W y.1 y.2.1 y.2.2.2.parts∧y.2.2.2.g.text.size≤9223372036854775807
set_option maxRecDepth 20000 in
theorem open_gens {H:Type}{enc:TypeId × Value→H}{W:World}{fuel:Nat}{cs:List Value}{x:DataW H × List MemPlace}(h:DataW.trod enc Tryz.prog W 0 (fun _=>true) true fuel 28 cs=some x):∃ a n c xs,cs = [.slice a n c]∧Ges W a n xs:=by
 rcases DataW.trod_slice Tryz.underlying28 h with ⟨rfl,_⟩ | ⟨a,len,cap,elems,rest,n,rfl,rfl,_,_,hl,hm,hlen,hel,_,_⟩
 ·exact ⟨none,0,0,[],rfl,⟨rfl,by decide,fun k hk=>absurd hk (by omega)⟩⟩
 ·have ec:Tryz.prog.cellsOf 105=5:=by kernel_rfl
  rw [ec] at hel
  have each:∀ i,i<len→∃ y:Option Addr × Nat × Nat × GE,∃ cs',W.cells? 0 (a.add (i * 5)) 5=some cs'∧OpensE W y cs':=by
   intro i hi
   have he:=hel i hi
   rw [List.getElem?_eq_getElem (by omega)] at he
   cases hc:W.cells? 0 (a.add (i * 5)) 5 with
   | none=>rw [hc] at he; cases he
   | some cs' =>
    rw [hc] at he
    obtain ⟨g,a1,n1,c1,ps,hcs,hp,hs⟩:=open_gen he
    exact ⟨(a1,n1,c1,⟨g,ps⟩),cs',rfl,hcs,hp,hs⟩
  obtain ⟨y,hy⟩:=Go.Deep.choose_lt each
  have hm':len≤9223372036854775807:=by unfold maxLen at hm; omega
  refine ⟨some a,len,cap,(List.range len).map (fun i=>(y i).2.2.2),rfl,⟨by simp,hm',fun k hk=>?_⟩⟩
  obtain ⟨cs',hcs,rfl,hnk,hsk⟩:=hy k hk
  obtain ⟨_,_,hcell⟩:=World.cells?_some hcs
  obtain ⟨b,off,spot⟩:=a
  have hs:spot=none:=by
   obtain ⟨cs0,hcs0,_⟩:=hy 0 (by omega)
   obtain ⟨_,hl0,hcell0⟩:=World.cells?_some hcs0
   have h00:=hcell0 0 (by omega)
   rw [List.getElem?_eq_getElem (by omega)] at h00
   simpa [Addr.add] using World.cell?_spot h00
  subst hs
  have ey:((List.range len).map (fun i=>(y i).2.2.2)).getD k default=(y k).2.2.2:=by simp [hk]
  rw [ey]
  have cc:∀ j,j<5→W.cell? ⟨b,off+k * 5+j,none⟩ = [Value.int .i64 (y k).2.2.2.g.kind,.string (y k).2.2.2.g.text,.int .i64 (y k).2.2.2.g.addr,.int .i64 (y k).2.2.2.g.bits,.slice (y k).1 (y k).2.1 (y k).2.2.1][j]?:=by
   intro j hj
   have:=hcell j hj
   rw [Addr.add_lit,Addr.add_lit] at this
   exact this
  exact ⟨b,off,_,_,_,rfl,World.block_lt_of_cell? W _ (cc 0 (by omega)),⟨cc 0 (by omega),cc 1 (by omega),cc 2 (by omega),cc 3 (by omega),cc 4 (by omega)⟩,hnk,hsk⟩
set_option maxRecDepth 20000 in
theorem open_pub {H:Type}{enc:TypeId × Value→H}{W:World}{fuel:Nat}{cs:List Value}{x:DataW H × List MemPlace}(h:DataW.trod enc Tryz.prog W 0 (fun _=>true) true fuel 27 cs=some x):∃ s y k:Int,cs = [.int .i64 s,.int .u64 y,.int .i64 k]∧U64 y:=by
 obtain ⟨xs,m,rfl,_,hl,hxl,hf⟩:=DataW.trod_struct Tryz.underlying27 h
 have hl2:cs.length=3:=hl.trans (by kernel_rfl)
 have hx2:xs.length=3:=hxl
 obtain ⟨c0,c1,c2,rfl⟩:∃ c0 c1 c2,cs = [c0,c1,c2]:=by
  match cs,hl2 with
  | [c0,c1,c2],_=>exact ⟨c0,c1,c2,rfl⟩
 obtain ⟨x0,x1,x2,rfl⟩:∃ y0 y1 y2,xs = [y0,y1,y2]:=by
  match xs,hx2 with
  | [y0,y1,y2],_=>exact ⟨y0,y1,y2,rfl⟩
 have e0:Tryz.prog.cellsOf 2=1:=by kernel_rfl
 have f0:DataW.trod enc Tryz.prog W 0 (fun _=>true) true m 2 ((([c0,c1,c2]:List Value).drop 0).take (Tryz.prog.cellsOf 2))=some x0:=hf 0 _ rfl
 rw [e0] at f0
 have e1:Tryz.prog.cellsOf 25=1:=by kernel_rfl
 have f1:DataW.trod enc Tryz.prog W 0 (fun _=>true) true m 25 ((([c0,c1,c2]:List Value).drop 1).take (Tryz.prog.cellsOf 25))=some x1:=hf 1 _ rfl
 rw [e1] at f1
 have e2:Tryz.prog.cellsOf 2=1:=by kernel_rfl
 have f2:DataW.trod enc Tryz.prog W 0 (fun _=>true) true m 2 ((([c0,c1,c2]:List Value).drop 2).take (Tryz.prog.cellsOf 2))=some x2:=hf 2 _ rfl
 rw [e2] at f2
 obtain ⟨n0,h0,_,_⟩:=DataW.trod_int Tryz.underlying2 f0
 obtain ⟨n1,h1,_,hw⟩:=DataW.trod_int Tryz.underlying25 f1
 obtain ⟨n2,h2,_,_⟩:=DataW.trod_int Tryz.underlying2 f2
 simp at h0 h1 h2
 subst h0 h1 h2
 exact ⟨n0,n1,n2,rfl,bounds_u64 hw⟩
end Go.Proofs.YtmdfbnlgfhjnoaaGreatDoor
