import Derived.Deep.RegionHeld3
import Derived.Lib.QuietBelow
import Derived.ArgAppend
import Derived.Test.YtkdandggklpppaaGreatDoorFE19
set_option maxRecDepth 10000
set_option maxHeartbeats 8000000
set_option linter.unusedVariables false
namespace Go.Proofs.YtkdandggklpppaaGreatDoor
open Go.RowKit
theorem numberItem_agg (n:Int)(w:World)(h0 : -9223372036854775808≤n)(h1:n≤9223372036854775807) :
  Calls Tryz.prog 54 #[.int .i64 n] w fun e w'=>∃ g k,e=.returned (.agg #[.int .i64 0,.int .i64 2,.bool false,.slice (some ⟨g,k,none⟩) (wsz n) (wsz n),.slice none 0 0])∧w.heap.size≤g∧Row w' (some ⟨g,k,none⟩) (wsz n) (wbL n)∧Below w.heap.size w w':=numberItem_any n w h0 h1
theorem ownItem_agg (tag:Int)(a:Option Addr)(n c:Nat)(w:World) :
  Calls Tryz.prog 52 #[.int .i64 tag,.slice a n c] w fun e w'=>e=.returned (.agg #[.int .i64 1,.int .i64 tag,.bool true,.slice none 0 0,.slice a n c])∧Below w.heap.size w w':=ownItem_any tag a n c [] w
theorem l9Num_agg (n:Int)(w:World):Calls Tryz.prog 38 #[.int .i64 n] w fun e w'=>∃ a c,e=.returned (.agg #[.int .i64 0,.int .i64 2,.bool false,.slice a (wsz n) c,.slice none 0 0])∧Own (w.heap.size+1) w' a (wsz n) c (wbL n)∧Below w.heap.size w w':=l9Num_any n w
theorem l9Bytes_agg (a:Option Addr)(n c:Nat)(bs:List Int)(w:World)(h:Row w a n bs)(hc:a=none→c=0)(hn:n≤1000):Calls Tryz.prog 71 #[.slice a n c] w fun e w'=>∃ a c,e=.returned (.agg #[.int .i64 0,.int .i64 4,.bool false,.slice a n c,.slice none 0 0])∧Own (w.heap.size+1) w' a n c bs∧Below w.heap.size w w':=l9Bytes_any a n c bs w h hc hn
open Go.RowKit
def strI (ks:List It):It:=.mk 0 16 true [] ks
def lstI (ks:List It):It:=.mk 0 17 true [] ks
open Go.RowKit Go.Sort
theorem opw_buildSliceT {P:Program}{Q:Exit→Act→World→Prop}{o:Oper}{a:Act}{w:World}{K:Act→World→Prop}(t:TypeId)(n:Nat)(parts:Array (Nat × Operand))(ho:o.op=.buildSlice t n parts)(vs:Array (Nat × Value))(hvs:(parts.map fun p=>(p.1,a.eval p.2))=vs)(v:Value)(w':World)
  (hr:(Instr.buildSlice t n vs).run P w=.ok v w') (h:K (a.put o.dst v) w'):o.wp P a w K Q:=by
 refine opw_value v ?_ h
 have hvs':(parts.map fun x:Nat × Operand=>match x with | (i,x)=>(i,a.eval x))=vs:=hvs
 unfold execOp
 simp only [ho]
 rw [hvs']
 simp [hr]
theorem Row.atG {w:World}{g k n:Nat}{bs:List Int}(h:Row w (some ⟨g,k,none⟩) n bs):RowI (fun b=>b=g) w (some ⟨g,k,none⟩) n bs:=⟨h,fun x hx _=>by injection hx with hx; rw [← hx]⟩
theorem structItem_agg (a:Option Addr)(n c:Nat)(w:World) :
  Calls Tryz.prog 84 #[.slice a n c] w fun e w'=>e=.returned (.agg #[.int .i64 0,.int .i64 16,.bool true,.slice none 0 0,.slice a n c])∧Below w.heap.size w w':=by
 go_enter Tryz.func84,Tryz.ntmps84
 go_wp2_with fail
 try simp only [Exit.inBlock,Exit.then]
 exact bodyPost_ret (results_it rfl _ w.heap.size rfl _ _ _ _ _ _ (heap_alloc_new w _)) rfl ⟨rfl,(Below.refl _ _).alloc (Nat.le_refl _) _⟩
theorem Tryz.infoIt:(Tryz.prog.info? 81).map (fun i=>(i.zero,i.size,i.bytes))=some (some (.agg #[.int .i64 0,.int .i64 0,.bool false,.slice none 0 0,.slice none 0 0]),5,72):=by kernel_rfl
def RSpec.free2 (S:RSpec)(i d:Nat):Bool:=(List.range S.n).all fun k=>k == i || S.slot k != d || (S.pre k).contains i || (S.kill k).contains i
theorem RSpec.free2_of {S:RSpec}{i d:Nat}(h:S.free2 i d=true){k:Nat}(hk:k<S.n)(hne:k≠i)(hs:S.slot k=d):i∈S.pre k∨i∈S.kill k:=by
 have:=List.all_eq_true.1 h k (List.mem_range.2 hk)
 simpa [hne,hs] using this
theorem RI.turn {S:RSpec}{D:List Nat}{B:Nat}{w0:World}{a0:Act}{l:Nat→Bool}{a:Act}{w:World}(h:RI S D B w0 a0 l a w)(i d:Nat){v:Value}{w':World}(hpre:∀ j∈S.pre i,l j=true)
  (hd:D.contains d=true) (hs:d<a0.tmps.size) (hsl:S.slot i=d) (hli:l i=false) (hne:S.free2 i d=true) (hb:Below B w0 w')
  (hst:∀ k,k<S.n→k≠i→l k=true→(∀ j∈S.kill k,upd l i j=false)→∀ u,S.fact k u w→S.fact k u w') (hf:S.fact i v w'):RI S D B w0 a0 (upd l i) (a.put (some d) v) w':=by
 refine ⟨h.fr.put (List.contains_iff_mem.1 hd) v,hb,fun k hk=>upd_mono (h.vt k hk),fun k hk hl j hj=>?_,fun k hk hl hkill=>?_⟩
 ·by_cases e:k=i
  ·subst e
   exact upd_mono (hpre j hj)
  ·rw [upd_ne e] at hl
   exact upd_mono (h.cl k hk hl j hj)
 ·by_cases e:k=i
  ·subst e
   rw [hsl,aT_put_eq (by rw [h.fr.size]; exact hs)]
   exact hf
  ·rw [upd_ne e] at hl
   have hsk:S.slot k≠d:=fun e2=>by
    rcases S.free2_of hne hk e e2 with h1 | h1
    ·have:=h.cl k hk hl i h1
     rw [hli] at this
     cases this
    ·have:=hkill i h1
     rw [upd_same] at this
     cases this
   rw [aT_put_ne (Ne.symm hsk)]
   exact hst k hk e hl hkill _ (h.fact k hk hl (fun j hj=>of_upd (hkill j hj)))
theorem RI.putp {S:RSpec}{D:List Nat}{B:Nat}{w0:World}{a0:Act}{l:Nat→Bool}{a:Act}{w:World}(h:RI S D B w0 a0 l a w)(i d:Nat){v:Value}{w':World}(hpre:∀ j∈S.pre i,l j=true)
  (hd:D.contains d=true) (hs:d<a0.tmps.size) (hsl:S.slot i=d) (hli:l i=false) (hne:S.free2 i d=true) (hB:B≤w0.heap.size)
  (hst:∀ k,k<S.n→StB (S.fact k)) (hb:Below w.heap.size w w') (hf:S.fact i v w'):RI S D B w0 a0 (upd l i) (a.put (some d) v) w' :=
 h.turn i d hpre hd hs hsl hli hne (h.bel.trans (hb.mono (Nat.le_trans hB h.bel.size))) (fun k hk _ _ _ u hu=>hst k hk _ _ _ hu hb) hf
theorem unT {b:Bool}(h:b=true→False):b=false:=by
 cases b with
 | false=>rfl
 | true=>exact (h rfl).elim
theorem opw_indexY {P:Program}{Q:Exit→Act→World→Prop}{o:Oper}{a:Act}{w:World}{K:Act→World→Prop}(t:TypeId)(x y:Nat)(ho:o.op=.indexAddr t (.tmp x) (.tmp y))(p q:Value)(hx:aT a x=p)(hy:aT a y=q)(v:Value)(hr:(Instr.indexAt t p q).run P w=.ok v w)(h:K (a.put o.dst v) w):o.wp P a w K Q:=by
 refine opw_value v ?_ h
 have hx':a.eval (.tmp x)=p:=hx
 have hy':a.eval (.tmp y)=q:=hy
 unfold execOp
 simp [ho,hx',hy',hr]
theorem l2BoxC_agg (cls tag:Int)(a:Option Addr)(n c:Nat)(w:World) :
  Calls Tryz.prog 40 #[.int .i64 cls,.int .i64 tag,.slice a n c] w fun e w'=>e=.returned (.agg #[.int .i64 cls,.int .i64 tag,.bool true,.slice none 0 0,.slice a n c])∧Below w.heap.size w w':=by
 go_enter Tryz.func40,Tryz.ntmps40
 go_wp2_with fail
 try simp only [Exit.inBlock,Exit.then]
 exact bodyPost_ret (results_it rfl _ w.heap.size rfl _ _ _ _ _ _ (heap_alloc_new w _)) rfl ⟨rfl,(Below.refl _ _).alloc (Nat.le_refl _) _⟩
theorem l9Struct_agg (a:Option Addr)(n c:Nat)(w:World) :
  Calls Tryz.prog 36 #[.slice a n c] w fun e w'=>e=.returned (.agg #[.int .i64 0,.int .i64 16,.bool true,.slice none 0 0,.slice a n c])∧Below w.heap.size w w':=by
 have hbx:=box5_below w
 have HB5:Hid (_=_):=box5_new w
 go_enter Tryz.func36,Tryz.ntmps36
 go_wp2_with fail
 refine (l2BoxC_agg 0 16 a n c (box5 w)).mono ?_
 rintro e w2 ⟨rfl,hb2⟩
 have h5:=below_kept HB5.out hb2
 obtain ⟨_,q0,q1,q2,q3,q4,q5,q6,q7,q8,q9⟩:=Box5.of h5
 have H5:Hid (_=_):=h5
 have B2:Below w.heap.size w w2:=keepT hbx hb2
 clear h5 hb2
 go_wp2_with fail
 try simp only [Exit.inBlock,Exit.then]
 have T:=put5_touch w2 w.heap.size (.int .i64 0) (.int .i64 16) (.bool true) (.slice none 0 0) (.slice a n c)
 exact bodyPost_ret (results_it rfl _ w.heap.size rfl _ _ _ _ _ _ (put5_heap H5.out _ _ _ _ _)) rfl ⟨rfl,B2.trans (T.below (Nat.le_refl _) B2.size)⟩
theorem l9List_agg (a:Option Addr)(n c:Nat)(w:World) :
  Calls Tryz.prog 42 #[.slice a n c] w fun e w'=>e=.returned (.agg #[.int .i64 0,.int .i64 17,.bool true,.slice none 0 0,.slice a n c])∧Below w.heap.size w w':=by
 have hbx:=box5_below w
 have HB5:Hid (_=_):=box5_new w
 go_enter Tryz.func42,Tryz.ntmps42
 go_wp2_with fail
 refine (l2BoxC_agg 0 17 a n c (box5 w)).mono ?_
 rintro e w2 ⟨rfl,hb2⟩
 have h5:=below_kept HB5.out hb2
 obtain ⟨_,q0,q1,q2,q3,q4,q5,q6,q7,q8,q9⟩:=Box5.of h5
 have H5:Hid (_=_):=h5
 have B2:Below w.heap.size w w2:=keepT hbx hb2
 clear h5 hb2
 go_wp2_with fail
 try simp only [Exit.inBlock,Exit.then]
 have T:=put5_touch w2 w.heap.size (.int .i64 0) (.int .i64 17) (.bool true) (.slice none 0 0) (.slice a n c)
 exact bodyPost_ret (results_it rfl _ w.heap.size rfl _ _ _ _ _ _ (put5_heap H5.out _ _ _ _ _)) rfl ⟨rfl,B2.trans (T.below (Nat.le_refl _) B2.size)⟩
theorem Own.itv1 {B:Nat}{w:World}{a:Option Addr}{n c:Nat}{bs:List Int}(h:Own B w a n c bs)(t:Int)(hn:n≤9223372036854775807):ItV 1 (fun b=>B≤b∧b<w.heap.size) w (.mk 0 t false bs []) a n c none 0 0:=⟨h.toI,h.nil,hn,KidsI.none 0 _ _ _⟩
theorem kidsI_n2 {d:Nat}{S:Nat→Prop}{X:World}{x1 x2:It}{a1:Option Addr}{n1 c1:Nat}{k1:Option Addr}{m1 e1:Nat}{a2:Option Addr}{n2 c2:Nat}{k2:Option Addr}{m2 e2:Nat}(h1:ItV d S X x1 a1 n1 c1 k1 m1 e1)(h2:ItV d S X x2 a2 n2 c2 k2 m2 e2){T:Nat→Prop}(hs:∀ b,S b→T b)(hT:T X.heap.size){W:World}{t:Nat}(hW:W=X.alloc (.cells #[.int .i64 x1.cls,.int .i64 x1.tag,.bool x1.cons,.slice a1 n1 c1,.slice k1 m1 e1,.int .i64 x2.cls,.int .i64 x2.tag,.bool x2.cons,.slice a2 n2 c2,.slice k2 m2 e2] t)):KidsI (d+1) T W (some ⟨X.heap.size,0,none⟩) 2 [x1,x2]:=by
 subst hW
 have hb:Below X.heap.size X (X.alloc (.cells #[.int .i64 x1.cls,.int .i64 x1.tag,.bool x1.cons,.slice a1 n1 c1,.slice k1 m1 e1,.int .i64 x2.cls,.int .i64 x2.tag,.bool x2.cons,.slice a2 n2 c2,.slice k2 m2 e2] t)):=(Below.refl _ _).alloc (Nat.le_refl _) _
 have hc:=fun j=>cell_of_row _ X.heap.size j _ t (0,0) (heap_alloc_new X (.cells #[.int .i64 x1.cls,.int .i64 x1.tag,.bool x1.cons,.slice a1 n1 c1,.slice k1 m1 e1,.int .i64 x2.cls,.int .i64 x2.tag,.bool x2.cons,.slice a2 n2 c2,.slice k2 m2 e2] t))
 have g1:=(h1.kept hb).mono hs
 have g2:=(h2.kept hb).mono hs
 refine ⟨rfl,by decide,fun k hk=>⟨X.heap.size,0,rfl,by simp,hT,?_⟩⟩
 rcases (show k=0∨k=1 by omega) with rfl | rfl
 ·exact ⟨a1,n1,c1,k1,m1,e1,(hc 0).trans rfl,(hc 1).trans rfl,(hc 2).trans rfl,(hc 3).trans rfl,(hc 4).trans rfl,g1.row,g1.nil,g1.max,g1.kids⟩
 ·exact ⟨a2,n2,c2,k2,m2,e2,(hc 5).trans rfl,(hc 6).trans rfl,(hc 7).trans rfl,(hc 8).trans rfl,(hc 9).trans rfl,g2.row,g2.nil,g2.max,g2.kids⟩
theorem kidsI_n4 {d:Nat}{S:Nat→Prop}{X:World}{x1 x2 x3 x4:It}{a1:Option Addr}{n1 c1:Nat}{k1:Option Addr}{m1 e1:Nat}{a2:Option Addr}{n2 c2:Nat}{k2:Option Addr}{m2 e2:Nat}{a3:Option Addr}{n3 c3:Nat}{k3:Option Addr}{m3 e3:Nat}{a4:Option Addr}{n4 c4:Nat}{k4:Option Addr}{m4 e4:Nat}(h1:ItV d S X x1 a1 n1 c1 k1 m1 e1)(h2:ItV d S X x2 a2 n2 c2 k2 m2 e2)(h3:ItV d S X x3 a3 n3 c3 k3 m3 e3)(h4:ItV d S X x4 a4 n4 c4 k4 m4 e4){T:Nat→Prop}(hs:∀ b,S b→T b)(hT:T X.heap.size){W:World}{t:Nat}(hW:W=X.alloc (.cells #[.int .i64 x1.cls,.int .i64 x1.tag,.bool x1.cons,.slice a1 n1 c1,.slice k1 m1 e1,.int .i64 x2.cls,.int .i64 x2.tag,.bool x2.cons,.slice a2 n2 c2,.slice k2 m2 e2,.int .i64 x3.cls,.int .i64 x3.tag,.bool x3.cons,.slice a3 n3 c3,.slice k3 m3 e3,.int .i64 x4.cls,.int .i64 x4.tag,.bool x4.cons,.slice a4 n4 c4,.slice k4 m4 e4] t)):KidsI (d+1) T W (some ⟨X.heap.size,0,none⟩) 4 [x1,x2,x3,x4]:=by
 subst hW
 have hb:Below X.heap.size X (X.alloc (.cells #[.int .i64 x1.cls,.int .i64 x1.tag,.bool x1.cons,.slice a1 n1 c1,.slice k1 m1 e1,.int .i64 x2.cls,.int .i64 x2.tag,.bool x2.cons,.slice a2 n2 c2,.slice k2 m2 e2,.int .i64 x3.cls,.int .i64 x3.tag,.bool x3.cons,.slice a3 n3 c3,.slice k3 m3 e3,.int .i64 x4.cls,.int .i64 x4.tag,.bool x4.cons,.slice a4 n4 c4,.slice k4 m4 e4] t)):=(Below.refl _ _).alloc (Nat.le_refl _) _
 have hc:=fun j=>cell_of_row _ X.heap.size j _ t (0,0) (heap_alloc_new X (.cells #[.int .i64 x1.cls,.int .i64 x1.tag,.bool x1.cons,.slice a1 n1 c1,.slice k1 m1 e1,.int .i64 x2.cls,.int .i64 x2.tag,.bool x2.cons,.slice a2 n2 c2,.slice k2 m2 e2,.int .i64 x3.cls,.int .i64 x3.tag,.bool x3.cons,.slice a3 n3 c3,.slice k3 m3 e3,.int .i64 x4.cls,.int .i64 x4.tag,.bool x4.cons,.slice a4 n4 c4,.slice k4 m4 e4] t))
 have g1:=(h1.kept hb).mono hs
 have g2:=(h2.kept hb).mono hs
 have g3:=(h3.kept hb).mono hs
 have g4:=(h4.kept hb).mono hs
 refine ⟨rfl,by decide,fun k hk=>⟨X.heap.size,0,rfl,by simp,hT,?_⟩⟩
 rcases (show k=0∨k=1∨k=2∨k=3 by omega) with rfl | rfl | rfl | rfl
 ·exact ⟨a1,n1,c1,k1,m1,e1,(hc 0).trans rfl,(hc 1).trans rfl,(hc 2).trans rfl,(hc 3).trans rfl,(hc 4).trans rfl,g1.row,g1.nil,g1.max,g1.kids⟩
 ·exact ⟨a2,n2,c2,k2,m2,e2,(hc 5).trans rfl,(hc 6).trans rfl,(hc 7).trans rfl,(hc 8).trans rfl,(hc 9).trans rfl,g2.row,g2.nil,g2.max,g2.kids⟩
 ·exact ⟨a3,n3,c3,k3,m3,e3,(hc 10).trans rfl,(hc 11).trans rfl,(hc 12).trans rfl,(hc 13).trans rfl,(hc 14).trans rfl,g3.row,g3.nil,g3.max,g3.kids⟩
 ·exact ⟨a4,n4,c4,k4,m4,e4,(hc 15).trans rfl,(hc 16).trans rfl,(hc 17).trans rfl,(hc 18).trans rfl,(hc 19).trans rfl,g4.row,g4.nil,g4.max,g4.kids⟩
def W64 (n:Int):Prop:=-9223372036854775808≤n∧n≤9223372036854775807
open Go.RowKit Go.Sort
def KidZ (L B:Nat)(w:World)(g d:Nat)(ks:List It):Prop:=∃ S:Nat→Prop,KidsI d S w (some ⟨g,0,none⟩) ks.length ks∧∀ b,S b→(b<L∨B≤b)∧b<w.heap.size
theorem KidZ.kept {L:Nat}{B:Nat}{w w':World}{g d:Nat}{ks:List It}(h:KidZ L B w g d ks)(hb:Below w.heap.size w w'):KidZ L B w' g d ks:=by
 obtain ⟨S,h1,h2⟩:=h
 exact ⟨S,h1.touch (P:=fun _=>False) (fun _ _ h=>h) (TouchX.of_below hb),fun b hs=>⟨(h2 b hs).1,Nat.lt_of_lt_of_le (h2 b hs).2 hb.size⟩⟩
theorem KidZ.touched {L:Nat}{B:Nat}{w w':World}{g d gb:Nat}{ks:List It}(h:KidZ L B w g d ks)(ht:Touch gb (gb+1) w w')(hlt:L≤gb∧gb<B):KidZ L B w' g d ks:=by
 obtain ⟨S,h1,h2⟩:=h
 exact ⟨S,h1.touch (fun b hb e=>by have:=(h2 b hb).1; omega) ht.toX,fun b hs=>⟨(h2 b hs).1,Nat.lt_of_lt_of_le (h2 b hs).2 ht.size⟩⟩
def OwnItZ (d L R:Nat)(w:World)(a:Option Addr)(n c:Nat)(xs:List It):Prop:=OwnIts d (fun b=>(b<L∨R≤b)∧b<w.heap.size∧(Value.slice a n c).ownBlock≠some b) w a n c xs∧∀ b,(Value.slice a n c).ownBlock=some b→R≤b
theorem ownItZ_none (d L R:Nat)(w:World):OwnItZ d L R w none 0 0 []:=⟨(OwnIts.nil d w).mono (fun _ h=>h.elim) (fun b hb=>by cases hb),fun b hb=>by cases hb⟩
theorem OwnItZ.kept {L:Nat}{d R:Nat}{w w':World}{a:Option Addr}{n c:Nat}{xs:List It}(h:OwnItZ d L R w a n c xs)(hb:Below w.heap.size w w'):OwnItZ d L R w' a n c xs :=
 ⟨(h.1.kept hb).mono (fun k hk=>⟨hk.1,Nat.lt_of_lt_of_le hk.2.1 hb.size,hk.2.2⟩) (fun b hb hc=>hc.2.2 hb),h.2⟩
theorem OwnItZ.appended {L:Nat}{d R:Nat}{w1 w:World}{a:Option Addr}{n c:Nat}{xs:List It}{y:It}{ab:Option Addr}{nb cb:Nat}{ak:Option Addr}{nk ck:Nat}{g' c':Nat}{T:Nat→Prop}
  (h:OwnItZ d L R w a n c xs) (hy:ItV d T w y ab nb cb ak nk ck) (hT:∀ b,T b→(b<L∨R≤b)∧b<w.heap.size∧(Value.slice a n c).ownBlock≠some b) (hn:n+1≤9223372036854775807)
  {vs:List Value} (hv0:w.ownsRow 0 81 5 (.slice a n c) n vs) (hv:w1.ownsRow 0 81 5 (.slice (some ⟨g',0,none⟩) (n+1) c') (n+1) (vs++itc y ab nb cb ak nk ck)) (hg:w.grownBy w1 (Value.slice a n c).ownBlock) (hl:(Value.slice a n c).ownBlock=some g'∨g'=w.heap.size) (hR:R≤w.heap.size):OwnItZ d L R w1 (some ⟨g',0,none⟩) (n+1) c' (xs++[y]):=by
 refine ⟨((h.1.appended (hy.mono hT) (fun b hb=>hb) (fun b hb hc=>hc.2.2 hb) (fun b hb=>hb.2.1) hn hv0 hv hg hl)).mono (fun k hk=>⟨hk.1,Nat.lt_of_lt_of_le hk.2.1 hg.size,fun e=>?_⟩) (fun b hb hc=>hc.2.2 hb),fun b hb=>?_⟩
 ·have e2:g'=k:=by injection e
  rcases hl with hl | hl
  ·exact hk.2.2 (by rw [hl,e2])
  ·have:=hk.2.1
   omega
 ·have e2:g'=b:=by injection hb
  rcases hl with hl | hl
  ·rw [← e2]; exact h.2 g' hl
  ·omega
theorem OwnItZ.row {L:Nat}{d R:Nat}{w:World}{a:Option Addr}{n c:Nat}{xs:List It}(h:OwnItZ d L R w a n c xs):∃ vs,w.ownsRow 0 81 5 (.slice a n c) n vs:=by
 obtain ⟨vs,h1,_⟩:=h.1.own
 exact ⟨vs,h1⟩
theorem OwnItZ.kids {L:Nat}{d R:Nat}{w:World}{a:Option Addr}{n c:Nat}{xs:List It}(h:OwnItZ d L R w a n c xs):KidsI (d+1) (fun b=>(b<L∨R≤b)∧b<w.heap.size) w a n xs:=by
 obtain ⟨vs,hv⟩:=h.row
 exact h.1.kids (fun k hk=>⟨hk.1,hk.2.1⟩) (fun b hb=>⟨.inr (h.2 b hb),(hv.lt b hb).2⟩)
theorem KidZ.grown {L:Nat}{R:Nat}{w w':World}{g d:Nat}{ks:List It}{row:Option Nat}(h:KidZ L R w g d ks)(hg:w.grownBy w' row)(hlt:∀ j,row=some j→L≤j∧j<R):KidZ L R w' g d ks:=by
 obtain ⟨S,h1,h2⟩:=h
 exact ⟨S,h1.touch (fun k hk e=>by have:=hlt k e; have:=(h2 k hk).1; omega) (touchX_g hg (P:=fun k=>row=some k) (fun k hk=>hk)),fun b hb=>⟨(h2 b hb).1,Nat.lt_of_lt_of_le (h2 b hb).2 hg.size⟩⟩
structure ItZ (L B d:Nat)(w:World)(x:It)(ab:Option Addr)(nb cb:Nat)(ak:Option Addr)(nk ck:Nat):Prop where
 it:ItV d (fun b=>(b<L∨B≤b)∧b<w.heap.size) w x ab nb cb ak nk ck
theorem ItZ.kept {L:Nat}{B d:Nat}{w w':World}{x:It}{ab:Option Addr}{nb cb:Nat}{ak:Option Addr}{nk ck:Nat}(h:ItZ L B d w x ab nb cb ak nk ck)(hb:Below w.heap.size w w'):ItZ L B d w' x ab nb cb ak nk ck:=⟨(h.it.kept hb).mono (fun b hs=>⟨hs.1,Nat.lt_of_lt_of_le hs.2 hb.size⟩)⟩
theorem ItZ.touched {L:Nat}{B d gb:Nat}{w w':World}{x:It}{ab:Option Addr}{nb cb:Nat}{ak:Option Addr}{nk ck:Nat}(h:ItZ L B d w x ab nb cb ak nk ck)(ht:Touch gb (gb+1) w w')(hlt:L≤gb∧gb<B):ItZ L B d w' x ab nb cb ak nk ck:=⟨(h.it.touch (fun b hs e=>by have:=hs.1; omega) ht.toX).mono (fun b hs=>⟨hs.1,Nat.lt_of_lt_of_le hs.2 ht.size⟩)⟩
theorem ItZ.mono {L:Nat}{B B' d:Nat}{w:World}{x:It}{ab:Option Addr}{nb cb:Nat}{ak:Option Addr}{nk ck:Nat}(h:ItZ L B d w x ab nb cb ak nk ck)(hB:B'≤B):ItZ L B' d w x ab nb cb ak nk ck:=⟨h.it.mono (fun b hs=>⟨by have:=hs.1; omega,hs.2⟩)⟩
theorem ItZ.more {L:Nat}{B d:Nat}{w:World}{x:It}{ab:Option Addr}{nb cb:Nat}{ak:Option Addr}{nk ck:Nat}(h:ItZ L B d w x ab nb cb ak nk ck):ItZ L B (d+1) w x ab nb cb ak nk ck:=⟨h.it.more⟩
theorem KidZ.itz {L:Nat}{B:Nat}{w:World}{g d ck:Nat}{ks:List It}(h:KidZ L B w g d ks)(cls tag:Int):ItZ L B d w (.mk cls tag true [] ks) none 0 0 (some ⟨g,0,none⟩) ks.length ck:=by
 obtain ⟨S,h1,h2⟩:=h
 exact ⟨⟨⟨⟨rfl,fun j hj=>absurd hj (Nat.not_lt_zero _),by simp [It.body]⟩,fun x hx=>by cases hx⟩,fun _=>rfl,by decide,h1.mono h2⟩⟩
structure ListZ (L B d:Nat)(w:World)(ao:Option Addr)(n:Nat)(ks:List It):Prop where
 kids:KidsI d (fun b=>(b<L∨B≤b)∧b<w.heap.size) w ao n ks
theorem ListZ.kept {L:Nat}{B d:Nat}{w w':World}{ao:Option Addr}{n:Nat}{ks:List It}(h:ListZ L B d w ao n ks)(hb:Below w.heap.size w w'):ListZ L B d w' ao n ks:=⟨(h.kids.touch (P:=fun _=>False) (fun _ _ h=>h) (TouchX.of_below hb)).mono (fun b hs=>⟨hs.1,Nat.lt_of_lt_of_le hs.2 hb.size⟩)⟩
theorem ListZ.itz {L:Nat}{B d:Nat}{w:World}{ao:Option Addr}{n co:Nat}{ks:List It}(h:ListZ L B d w ao n ks):ItZ L B d w (lstI ks) none 0 0 ao n co:=⟨⟨⟨⟨rfl,fun j hj=>absurd hj (Nat.not_lt_zero _),by simp [lstI,It.body]⟩,fun x hx=>by cases hx⟩,fun _=>rfl,by decide,h.kids⟩⟩
theorem kidZ_n2 {L:Nat}{B d:Nat}{X:World}{x1 x2:It}{a1:Option Addr}{n1 c1:Nat}{k1:Option Addr}{m1 e1:Nat}{a2:Option Addr}{n2 c2:Nat}{k2:Option Addr}{m2 e2:Nat}{t:Nat}(hB:B≤X.heap.size)(h1:ItZ L B d X x1 a1 n1 c1 k1 m1 e1)(h2:ItZ L B d X x2 a2 n2 c2 k2 m2 e2):KidZ L B (X.alloc (.cells #[.int .i64 x1.cls,.int .i64 x1.tag,.bool x1.cons,.slice a1 n1 c1,.slice k1 m1 e1,.int .i64 x2.cls,.int .i64 x2.tag,.bool x2.cons,.slice a2 n2 c2,.slice k2 m2 e2] t)) X.heap.size (d+1) [x1,x2]:=by
 refine ⟨fun b=>(b<L∨B≤b)∧b<X.heap.size+1,kidsI_n2 (S:=fun b=>(b<L∨B≤b)∧b<X.heap.size) h1.it h2.it (fun b hb=>⟨hb.1,by have:=hb.2; omega⟩) ⟨.inr hB,by omega⟩ rfl,fun b hb=>⟨hb.1,?_⟩⟩
 have s:(X.alloc (.cells #[.int .i64 x1.cls,.int .i64 x1.tag,.bool x1.cons,.slice a1 n1 c1,.slice k1 m1 e1,.int .i64 x2.cls,.int .i64 x2.tag,.bool x2.cons,.slice a2 n2 c2,.slice k2 m2 e2] t)).heap.size=X.heap.size+1:=by simp
 have:=hb.2
 omega
theorem kidZ_n4 {L:Nat}{B d:Nat}{X:World}{x1 x2 x3 x4:It}{a1:Option Addr}{n1 c1:Nat}{k1:Option Addr}{m1 e1:Nat}{a2:Option Addr}{n2 c2:Nat}{k2:Option Addr}{m2 e2:Nat}{a3:Option Addr}{n3 c3:Nat}{k3:Option Addr}{m3 e3:Nat}{a4:Option Addr}{n4 c4:Nat}{k4:Option Addr}{m4 e4:Nat}{t:Nat}(hB:B≤X.heap.size)(h1:ItZ L B d X x1 a1 n1 c1 k1 m1 e1)(h2:ItZ L B d X x2 a2 n2 c2 k2 m2 e2)(h3:ItZ L B d X x3 a3 n3 c3 k3 m3 e3)(h4:ItZ L B d X x4 a4 n4 c4 k4 m4 e4):KidZ L B (X.alloc (.cells #[.int .i64 x1.cls,.int .i64 x1.tag,.bool x1.cons,.slice a1 n1 c1,.slice k1 m1 e1,.int .i64 x2.cls,.int .i64 x2.tag,.bool x2.cons,.slice a2 n2 c2,.slice k2 m2 e2,.int .i64 x3.cls,.int .i64 x3.tag,.bool x3.cons,.slice a3 n3 c3,.slice k3 m3 e3,.int .i64 x4.cls,.int .i64 x4.tag,.bool x4.cons,.slice a4 n4 c4,.slice k4 m4 e4] t)) X.heap.size (d+1) [x1,x2,x3,x4]:=by
 refine ⟨fun b=>(b<L∨B≤b)∧b<X.heap.size+1,kidsI_n4 (S:=fun b=>(b<L∨B≤b)∧b<X.heap.size) h1.it h2.it h3.it h4.it (fun b hb=>⟨hb.1,by have:=hb.2; omega⟩) ⟨.inr hB,by omega⟩ rfl,fun b hb=>⟨hb.1,?_⟩⟩
 have s:(X.alloc (.cells #[.int .i64 x1.cls,.int .i64 x1.tag,.bool x1.cons,.slice a1 n1 c1,.slice k1 m1 e1,.int .i64 x2.cls,.int .i64 x2.tag,.bool x2.cons,.slice a2 n2 c2,.slice k2 m2 e2,.int .i64 x3.cls,.int .i64 x3.tag,.bool x3.cons,.slice a3 n3 c3,.slice k3 m3 e3,.int .i64 x4.cls,.int .i64 x4.tag,.bool x4.cons,.slice a4 n4 c4,.slice k4 m4 e4] t)).heap.size=X.heap.size+1:=by simp
 have:=hb.2
 omega
theorem ItZ.grown {L:Nat}{B d:Nat}{w w':World}{x:It}{ab:Option Addr}{nb cb:Nat}{ak:Option Addr}{nk ck:Nat}{row:Option Nat}(h:ItZ L B d w x ab nb cb ak nk ck)(hg:w.grownBy w' row)(hlt:∀ j,row=some j→L≤j∧j<B):ItZ L B d w' x ab nb cb ak nk ck :=
 ⟨(h.it.touch (fun k hk e=>by have:=hlt k e; have:=hk.1; omega) (touchX_g hg (P:=fun k=>row=some k) (fun k hk=>hk))).mono (fun b hs=>⟨hs.1,Nat.lt_of_lt_of_le hs.2 hg.size⟩)⟩
open Go.RowKit
section
variable {P:Program} {Q:Exit→Act→World→Prop}
def StepsRK (P:Program)(Q:Exit→Act→World→Prop)(ops:Array Oper)(S:RSpec)(D:List Nat)(B:Nat)(w0:World)(a0:Act)(i:Nat)(os:List Oper):Prop :=
 ∀ k o,os[k]? = some o→∀ (l:Nat→Bool) (a:Act) (w:World),RI S D B w0 a0 l a w→l (i+k)=false→(∀ e∈o.after,Region.binds .any e=true→l e.on=true)→∀ K':Act→World→Prop,Hid (∀ a w,RI S D B w0 a0 (upd l (i+k)) a w→K' a w)→if Region.wanted o (yielded ops a.tmps)=true then o.wp P a w K' Q else K' (a.put o.dst undef) w
theorem StepsRK.nil {ops:Array Oper}{S:RSpec}{D:List Nat}{B:Nat}{w0:World}{a0:Act}{i:Nat}:StepsRK P Q ops S D B w0 a0 i []:=fun k o h=>by simp at h
theorem StepsRK.cons {ops:Array Oper}{S:RSpec}{D:List Nat}{B:Nat}{w0:World}{a0:Act}{i:Nat}{o:Oper}{os:List Oper}
  (h:∀ (l:Nat→Bool) (a:Act) (w:World),RI S D B w0 a0 l a w→l i=false→(∀ e∈o.after,Region.binds .any e=true→l e.on=true)→∀ K':Act→World→Prop,Hid (∀ a w,RI S D B w0 a0 (upd l i) a w→K' a w)→if Region.wanted o (yielded ops a.tmps)=true then o.wp P a w K' Q else K' (a.put o.dst undef) w)
  (hs:StepsRK P Q ops S D B w0 a0 (i+1) os):StepsRK P Q ops S D B w0 a0 i (o::os):=fun k o' hk=>by
 cases k with
 | zero =>
  simp only [List.getElem?_cons_zero,Option.some.injEq] at hk
  subst hk
  exact h
 | succ k =>
  simp only [List.getElem?_cons_succ] at hk
  have:=hs k o' hk
  rwa [Nat.add_right_comm] at this
theorem rk_plain {ops:Array Oper}{o:Oper}{a:Act}{w:World}{K:Act→World→Prop}(hg:o.guard=none)(h:o.wp P a w K Q):if Region.wanted o (yielded ops a.tmps)=true then o.wp P a w K Q else K (a.put o.dst undef) w:=by
 have hw:Region.wanted o (yielded ops a.tmps)=true:=by simp [Region.wanted,hg]
 rw [if_pos hw]
 exact h
def yb:Value→Option Bool
 | .bool b=>some b
 | _=>none
theorem yielded_of {ops:Array Oper}{a:Act}{j s:Nat}{v:Value}(hd:(ops[j]?).bind (·.dst)=some s)(hv:aT a s=v):yielded ops a.tmps j=yb v:=by
 unfold yielded
 rw [hd]
 subst hv
 unfold aT
 by_cases hs:s<a.tmps.size
 ·simp only [Option.bind_some,Array.getElem?_eq_getElem hs,Array.getD_eq_getD_getElem?,Option.getD_some]
  generalize a.tmps[s]=v
  cases v <;> rfl
 ·simp [Array.getElem?_eq_none (Nat.le_of_not_lt hs),undef,yb]
theorem rk_take {ops:Array Oper}{o:Oper}{a:Act}{w:World}{K:Act→World→Prop}(j:Nat)(want:Bool)(s:Nat)(hg:o.guard=some (j,want))(hd:(ops[j]?).bind (·.dst)=some s)(hv:aT a s=.bool want)(h:o.wp P a w K Q):if Region.wanted o (yielded ops a.tmps)=true then o.wp P a w K Q else K (a.put o.dst undef) w:=by
 have hw:Region.wanted o (yielded ops a.tmps)=true:=by simp [Region.wanted,hg,yielded_of hd hv,yb]
 rw [if_pos hw]
 exact h
theorem rk_skip {ops:Array Oper}{o:Oper}{a:Act}{w:World}{K:Act→World→Prop}(j:Nat)(want:Bool)(s:Nat)(v:Value)(hg:o.guard=some (j,want))(hd:(ops[j]?).bind (·.dst)=some s)(hv:aT a s=v)(hne:(yb v == some want)=false)(h:K (a.put o.dst undef) w):if Region.wanted o (yielded ops a.tmps)=true then o.wp P a w K Q else K (a.put o.dst undef) w:=by
 have hw:Region.wanted o (yielded ops a.tmps)=false:=by
  simp only [Region.wanted,hg,yielded_of hd hv]
  exact hne
 rw [if_neg (by rw [hw]; decide)]
 exact h
theorem opw_pick_t {o:Oper}{a:Act}{w:World}{K:Act→World→Prop}(c:Nat)(x y:Operand)(ho:o.op=.pick (.tmp c) x y)(hc:aT a c=.bool true)(v:Value)(hx:a.eval x=v)(h:K (a.put o.dst v) w):o.wp P a w K Q:=by
 refine opw_value v ?_ h
 have hc':a.eval (.tmp c)=.bool true:=hc
 unfold execOp
 simp [ho,hc',hx,asBool]
theorem opw_pick_f {o:Oper}{a:Act}{w:World}{K:Act→World→Prop}(c:Nat)(x y:Operand)(ho:o.op=.pick (.tmp c) x y)(hc:aT a c=.bool false)(v:Value)(hy:a.eval y=v)(h:K (a.put o.dst v) w):o.wp P a w K Q:=by
 refine opw_value v ?_ h
 have hc':a.eval (.tmp c)=.bool false:=hc
 unfold execOp
 simp [ho,hc',hy,asBool]
theorem opw_eql {o:Oper}{a:Act}{w:World}{K:Act→World→Prop}(t t2 x y:Nat)(ho:o.op=.binOp .eql t (.tmp x) (.tmp y) t2)(k:IntKind)(p q:Int)(hx:aT a x=.int k p)(hy:aT a y=.int k q)(c:Bool)(hc:(p == q)=c)(h:K (a.put o.dst (.bool c)) w):o.wp P a w K Q:=by
 refine opw_value (.bool c) ?_ h
 have hx':a.eval (.tmp x)=.int k p:=hx
 have hy':a.eval (.tmp y)=.int k q:=hy
 unfold execOp
 subst hc
 simp only [ho,hx',hy']
 simp [go_sem]
def edgesBackK (ops:Array Oper):Bool:=(List.range ops.size).all fun i=>((ops[i]?).map fun o=>o.after.all fun e=>!Region.binds .any e || decide (e.on<i)).getD true
theorem edgesBackK_of {ops:Array Oper}(h:edgesBackK ops=true){i:Nat}{o:Oper}(ho:ops[i]? = some o):∀ e∈o.after,Region.binds .any e=true→e.on<i:=by
 have hi:i<ops.size:=(Array.getElem?_eq_some_iff.1 ho).1
 have h1:=List.all_eq_true.1 h i (List.mem_range.2 hi)
 rw [ho] at h1
 simp only [Option.map_some,Option.getD_some] at h1
 refine fun e he hb=>?_
 obtain ⟨j,hj,rfl⟩:=Array.mem_iff_getElem.1 he
 have:=(Array.all_eq_true.1 h1) j hj
 simpa [hb] using this
theorem all_listedK {ops:Array Oper}{listed:Array Bool}(he:edgesBackK ops=true)(hz:listed.size=ops.size)(h:Region.ready .any ops listed = []):∀ i,i<ops.size→listed.getD i false=true:=by
 intro i
 induction i using Nat.strongRecOn with
 | ind i ih =>
  intro hi
  cases hl:listed.getD i false with
  | true=>rfl
  | false =>
   exfalso
   have ho:ops[i]? = some ops[i]:=by simp [hi]
   have hm:i∈Region.ready .any ops listed:=mem_ready.2 ⟨by
    have:i<listed.size:=hz ▸ hi
    simp [this] at hl ⊢
    exact hl,_,ho,fun e hee hb=>ih _ ((edgesBackK_of he ho) e hee hb) (Nat.lt_trans ((edgesBackK_of he ho) e hee hb) hi)⟩
   rw [h] at hm
   cases hm
theorem wpAny_rk {ops:Array Oper}{S:RSpec}{D:List Nat}{B:Nat}{w0:World}{a0:Act}(he:edgesBackK ops=true)(hs:StepsRK P Q ops S D B w0 a0 0 ops.toList)
  (hend:∀ l a w,RI S D B w0 a0 l a w→(∀ k,l k=true)→Q .normal a w) :
  ∀ (fuel:Nat) (listed:Array Bool) (a:Act) (w:World),listed.size=ops.size→listed.toList.count false≤fuel→RI S D B w0 a0 (fun k=>listed.getD k true) a w→wpAny P .any ops Q fuel listed a w:=by
 have full:∀ listed:Array Bool,listed.size=ops.size→(∀ k,k<ops.size→listed.getD k false=true)→∀ k,listed.getD k true=true:=fun listed hz h k=>by
  by_cases hk:k<listed.size
  ·have:=h k (hz ▸ hk)
   simp [hk] at this ⊢
   exact this
  ·simp [Array.getElem?_eq_none (Nat.le_of_not_lt hk)]
 intro fuel
 induction fuel with
 | zero =>
  intro listed a w hz hc hI
  have hall:∀ k,k<ops.size→listed.getD k false=true:=fun k hk=>by
   have hk':k<listed.size:=hz ▸ hk
   have h0:listed.toList.count false=0:=Nat.le_zero.1 hc
   have:=List.count_eq_zero.1 h0
   cases hv:listed[k] with
   | true=>simp [hk',hv]
   | false=>exact absurd (by rw [← hv]; exact Array.mem_toList_iff.2 (Array.getElem_mem hk')) this
  have hr:Region.ready .any ops listed = []:=by
   refine List.eq_nil_iff_forall_not_mem.2 (fun i hi=>?_)
   obtain ⟨h1,o,ho,_⟩:=mem_ready.1 hi
   have hi':i<ops.size:=(Array.getElem?_eq_some_iff.1 ho).1
   have h2:=hall i hi'
   have hi2:i<listed.size:=hz ▸ hi'
   simp [hi2] at h1 h2
   rw [h1] at h2
   cases h2
  exact ⟨hr,hend _ _ _ hI (full _ hz hall)⟩
 | succ fuel ih =>
  intro listed a w hz hc hI
  refine ⟨fun hr=>hend _ _ _ hI (full _ hz (all_listedK he hz hr)),fun i hi=>?_⟩
  obtain ⟨h1,o,ho,hed⟩:=mem_ready.1 hi
  have hi':i<ops.size:=(Array.getElem?_eq_some_iff.1 ho).1
  have hi2:i<listed.size:=hz ▸ hi'
  have hf:listed[i]=false:=by simpa [hi2] using h1
  refine wpOp_step ho (fun K' hK=>?_)
  refine hs i o (by simpa using ho) _ a w hI (by simp [hi2,hf]) (fun e hee hb=>?_) K' (fun a' w' hI'=>hK a' w' (ih _ a' w' (by simpa using hz) ?_ ?_))
  ·have h3:=hed e hee hb
   by_cases hk:e.on<listed.size
   ·simp [hk] at h3 ⊢
    exact h3
   ·simp [Array.getElem?_eq_none (Nat.le_of_not_lt hk)]
  ·have hcs:(listed.setIfInBounds i true).toList.count false+1=listed.toList.count false:=by
    have hm:0<listed.toList.count false:=List.count_pos_iff.2 (by rw [← hf]; exact Array.mem_toList_iff.2 (Array.getElem_mem hi2))
    have e1:(listed.toList[i] == false)=true:=by simp [hf]
    have e2:¬ ((true == false)=true):=by decide
    rw [Array.toList_setIfInBounds,List.count_set (by simpa using hi2),if_pos e1,if_neg e2]
    omega
   omega
  ·have:(fun k=>(listed.setIfInBounds i true).getD k true)=upd (fun k=>listed.getD k true) (0+i):=by
    funext k
    by_cases e:k=i
    ·subst e
     simp [upd,hi2]
    ·simp [upd,e,Array.getElem?_setIfInBounds_ne (Ne.symm e)]
   rw [this]
   exact hI'
theorem wp_region_rk {id:Nat}{ops:Array Oper}{a:Act}{w:World}(S:RSpec)(D:List Nat)(B:Nat)(G:Act→Prop)(hm:P.follows .mixedOrders=true)(hn:S.m=ops.size)(he:edgesBackK ops=true)(hp:(S.pres.drop S.m).all List.isEmpty=true)(hG:G a)
  (hst:∀ k,k<S.n→StB (S.fact k)) (h0:∀ k,S.m≤k→k<S.n→S.fact k (aT a (S.slot k)) w)
  (hs:∀ a0,G a0→StepsRK P Q ops S D B w a0 0 ops.toList)
  (hend:∀ a' w',Fr D a a'→Below B w w'→(∀ k,k<S.n→S.kill k = []→S.fact k (aT a' (S.slot k)) w')→Q .normal a' w'):(Code.region id ops true).wp P Q a w:=by
 refine wp_region_any hm (wpAny_rk he (hs a hG) (fun l a' w' hI hl=>hend a' w' hI.fr hI.bel (fun k hk h0=>hI.fact k hk (hl k) (by simp [h0]))) ops.size _ a _ (by simp) (by simp) ?_)
 refine ri_start (Below.refl _ _).drew (fun k hl=>?_) (fun k hk=>?_) hp (fun k h1 h2=>hst k h2 _ _ _ (h0 k h1 h2) (Below.refl _ _).drew)
 ·rw [hn]
  by_cases hk:k<ops.size
  ·simp [hk] at hl
  ·omega
 ·rw [hn] at hk
  simp [Array.getElem?_eq_none (show (Array.replicate ops.size false).size≤k by simpa using hk)]
end
end Go.Proofs.YtkdandggklpppaaGreatDoor
