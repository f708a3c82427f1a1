import Derived.Great.BuildSlice
import Derived.Great.Walk
import Derived.Deep.Cut
import Derived.ArgAppend
import Derived.Test.YtnmplldhdfingaaGreatDoorFG27
set_option maxRecDepth 10000
set_option maxHeartbeats 8000000
set_option linter.unusedVariables false
namespace Go.Proofs.YtnmplldhdfingaaGreatDoor
open Go.RowKit
def Keeps (B:Nat)(W:World)(Q:World→Prop):Prop:=∃ R:World→Prop,Stab B R∧R W∧∀ W',R W'→Q W'
theorem Keeps.now {B:Nat}{W:World}{Q:World→Prop}(h:Keeps B W Q):Q W:=by
 obtain ⟨R,_,hr,hq⟩:=h
 exact hq _ hr
theorem Keeps.mono {B B':Nat}{W:World}{Q:World→Prop}(h:Keeps B' W Q)(hB:B≤B'):Keeps B W Q:=by
 obtain ⟨R,hs,hr,hq⟩:=h
 exact ⟨R,fun W W' e s r=>hs W W' (fun l hl=>e l (by omega)) s r,hr,hq⟩
theorem infoSizeCrl:(Tryz.prog.info? 38).map (·.size)=some 9:=by kernel_rfl
open Go.RowKit Go.Sort
theorem opw_buildSliceT {P:Program}{Q:Exit→Act→World→Prop}{o:Oper}{a:Act}{w:World}{K:Act→World→Prop}(t:TypeId)(n:Nat)(parts:Array (Nat × Operand))(ho:o.op=.buildSlice t n parts)(vs:Array (Nat × Value))(hvs:(parts.map fun p=>(p.1,a.eval p.2))=vs)(v:Value)(w':World)
  (hr:(Instr.buildSlice t n vs).run P w=.ok v w') (h:K (a.put o.dst v) w'):o.wp P a w K Q:=by
 refine opw_value v ?_ h
 have hvs':(parts.map fun x:Nat × Operand=>match x with | (i,x)=>(i,a.eval x))=vs:=hvs
 unfold execOp
 simp only [ho]
 rw [hvs']
 simp [hr]
theorem Row.atG {w:World}{g k n:Nat}{bs:List Int}(h:Row w (some ⟨g,k,none⟩) n bs):RowI (fun b=>b=g) w (some ⟨g,k,none⟩) n bs:=⟨h,fun x hx _=>by injection hx with hx; rw [← hx]⟩
theorem structItem_agg (a:Option Addr)(n c:Nat)(w:World) :
  Calls Tryz.prog 108 #[.slice a n c] w fun e w'=>e=.returned (.agg #[.int .i64 0,.int .i64 16,.bool true,.slice none 0 0,.slice a n c])∧Below w.heap.size w w':=by
 go_enter Tryz.func108,Tryz.ntmps108
 go_wp2_with fail
 try simp only [Exit.inBlock,Exit.then]
 exact bodyPost_ret (results_it rfl _ w.heap.size rfl _ _ _ _ _ _ (heap_alloc_new w _)) rfl ⟨rfl,(Below.refl _ _).alloc (Nat.le_refl _) _⟩
theorem Tryz.infoIt:(Tryz.prog.info? 94).map (fun i=>(i.zero,i.size,i.bytes))=some (some (.agg #[.int .i64 0,.int .i64 0,.bool false,.slice none 0 0,.slice none 0 0]),5,72):=by kernel_rfl
def RSpec.free2 (S:RSpec)(i d:Nat):Bool:=(List.range S.n).all fun k=>k == i || S.slot k != d || (S.pre k).contains i || (S.kill k).contains i
theorem RSpec.free2_of {S:RSpec}{i d:Nat}(h:S.free2 i d=true){k:Nat}(hk:k<S.n)(hne:k≠i)(hs:S.slot k=d):i∈S.pre k∨i∈S.kill k:=by
 have:=List.all_eq_true.1 h k (List.mem_range.2 hk)
 simpa [hne,hs] using this
theorem RI.turn {S:RSpec}{D:List Nat}{B:Nat}{w0:World}{a0:Act}{l:Nat→Bool}{a:Act}{w:World}(h:RI S D B w0 a0 l a w)(i d:Nat){v:Value}{w':World}(hpre:∀ j∈S.pre i,l j=true)
  (hd:D.contains d=true) (hs:d<a0.tmps.size) (hsl:S.slot i=d) (hli:l i=false) (hne:S.free2 i d=true) (hb:Below B w0 w')
  (hst:∀ k,k<S.n→k≠i→l k=true→(∀ j∈S.kill k,upd l i j=false)→∀ u,S.fact k u w→S.fact k u w') (hf:S.fact i v w'):RI S D B w0 a0 (upd l i) (a.put (some d) v) w':=by
 refine ⟨h.fr.put (List.contains_iff_mem.1 hd) v,hb,fun k hk=>upd_mono (h.vt k hk),fun k hk hl j hj=>?_,fun k hk hl hkill=>?_⟩
 ·by_cases e:k=i
  ·subst e
   exact upd_mono (hpre j hj)
  ·rw [upd_ne e] at hl
   exact upd_mono (h.cl k hk hl j hj)
 ·by_cases e:k=i
  ·subst e
   rw [hsl,aT_put_eq (by rw [h.fr.size]; exact hs)]
   exact hf
  ·rw [upd_ne e] at hl
   have hsk:S.slot k≠d:=fun e2=>by
    rcases S.free2_of hne hk e e2 with h1 | h1
    ·have:=h.cl k hk hl i h1
     rw [hli] at this
     cases this
    ·have:=hkill i h1
     rw [upd_same] at this
     cases this
   rw [aT_put_ne (Ne.symm hsk)]
   exact hst k hk e hl hkill _ (h.fact k hk hl (fun j hj=>of_upd (hkill j hj)))
theorem RI.putp {S:RSpec}{D:List Nat}{B:Nat}{w0:World}{a0:Act}{l:Nat→Bool}{a:Act}{w:World}(h:RI S D B w0 a0 l a w)(i d:Nat){v:Value}{w':World}(hpre:∀ j∈S.pre i,l j=true)
  (hd:D.contains d=true) (hs:d<a0.tmps.size) (hsl:S.slot i=d) (hli:l i=false) (hne:S.free2 i d=true) (hB:B≤w0.heap.size)
  (hst:∀ k,k<S.n→StB (S.fact k)) (hb:Below w.heap.size w w') (hf:S.fact i v w'):RI S D B w0 a0 (upd l i) (a.put (some d) v) w' :=
 h.turn i d hpre hd hs hsl hli hne (h.bel.trans (hb.mono (Nat.le_trans hB h.bel.size))) (fun k hk _ _ _ u hu=>hst k hk _ _ _ hu hb) hf
theorem unT {b:Bool}(h:b=true→False):b=false:=by
 cases b with
 | false=>rfl
 | true=>exact (h rfl).elim
theorem opw_indexY {P:Program}{Q:Exit→Act→World→Prop}{o:Oper}{a:Act}{w:World}{K:Act→World→Prop}(t:TypeId)(x y:Nat)(ho:o.op=.indexAddr t (.tmp x) (.tmp y))(p q:Value)(hx:aT a x=p)(hy:aT a y=q)(v:Value)(hr:(Instr.indexAt t p q).run P w=.ok v w)(h:K (a.put o.dst v) w):o.wp P a w K Q:=by
 refine opw_value v ?_ h
 have hx':a.eval (.tmp x)=p:=hx
 have hy':a.eval (.tmp y)=q:=hy
 unfold execOp
 simp [ho,hx',hy',hr]
theorem l2BoxC_agg (cls tag:Int)(a:Option Addr)(n c:Nat)(w:World) :
  Calls Tryz.prog 54 #[.int .i64 cls,.int .i64 tag,.slice a n c] w fun e w'=>e=.returned (.agg #[.int .i64 cls,.int .i64 tag,.bool true,.slice none 0 0,.slice a n c])∧Below w.heap.size w w':=by
 go_enter Tryz.func54,Tryz.ntmps54
 go_wp2_with fail
 try simp only [Exit.inBlock,Exit.then]
 exact bodyPost_ret (results_it rfl _ w.heap.size rfl _ _ _ _ _ _ (heap_alloc_new w _)) rfl ⟨rfl,(Below.refl _ _).alloc (Nat.le_refl _) _⟩
theorem l9Struct_agg (a:Option Addr)(n c:Nat)(w:World) :
  Calls Tryz.prog 50 #[.slice a n c] w fun e w'=>e=.returned (.agg #[.int .i64 0,.int .i64 16,.bool true,.slice none 0 0,.slice a n c])∧Below w.heap.size w w':=by
 have hbx:=box5_below w
 have HB5:Hid (_=_):=box5_new w
 go_enter Tryz.func50,Tryz.ntmps50
 go_wp2_with fail
 refine (l2BoxC_agg 0 16 a n c (box5 w)).mono ?_
 rintro e w2 ⟨rfl,hb2⟩
 have h5:=below_kept HB5.out hb2
 obtain ⟨_,q0,q1,q2,q3,q4,q5,q6,q7,q8,q9⟩:=Box5.of h5
 have H5:Hid (_=_):=h5
 have B2:Below w.heap.size w w2:=keepT hbx hb2
 clear h5 hb2
 go_wp2_with fail
 try simp only [Exit.inBlock,Exit.then]
 have T:=put5_touch w2 w.heap.size (.int .i64 0) (.int .i64 16) (.bool true) (.slice none 0 0) (.slice a n c)
 exact bodyPost_ret (results_it rfl _ w.heap.size rfl _ _ _ _ _ _ (put5_heap H5.out _ _ _ _ _)) rfl ⟨rfl,B2.trans (T.below (Nat.le_refl _) B2.size)⟩
theorem l9List_agg (a:Option Addr)(n c:Nat)(w:World) :
  Calls Tryz.prog 56 #[.slice a n c] w fun e w'=>e=.returned (.agg #[.int .i64 0,.int .i64 17,.bool true,.slice none 0 0,.slice a n c])∧Below w.heap.size w w':=by
 have hbx:=box5_below w
 have HB5:Hid (_=_):=box5_new w
 go_enter Tryz.func56,Tryz.ntmps56
 go_wp2_with fail
 refine (l2BoxC_agg 0 17 a n c (box5 w)).mono ?_
 rintro e w2 ⟨rfl,hb2⟩
 have h5:=below_kept HB5.out hb2
 obtain ⟨_,q0,q1,q2,q3,q4,q5,q6,q7,q8,q9⟩:=Box5.of h5
 have H5:Hid (_=_):=h5
 have B2:Below w.heap.size w w2:=keepT hbx hb2
 clear h5 hb2
 go_wp2_with fail
 try simp only [Exit.inBlock,Exit.then]
 have T:=put5_touch w2 w.heap.size (.int .i64 0) (.int .i64 17) (.bool true) (.slice none 0 0) (.slice a n c)
 exact bodyPost_ret (results_it rfl _ w.heap.size rfl _ _ _ _ _ _ (put5_heap H5.out _ _ _ _ _)) rfl ⟨rfl,B2.trans (T.below (Nat.le_refl _) B2.size)⟩
theorem Own.itv1 {B:Nat}{w:World}{a:Option Addr}{n c:Nat}{bs:List Int}(h:Own B w a n c bs)(t:Int)(hn:n≤9223372036854775807):ItV 1 (fun b=>B≤b∧b<w.heap.size) w (.mk 0 t false bs []) a n c none 0 0:=⟨h.toI,h.nil,hn,KidsI.none 0 _ _ _⟩
theorem kidsI_n2 {d:Nat}{S:Nat→Prop}{X:World}{x1 x2:It}{a1:Option Addr}{n1 c1:Nat}{k1:Option Addr}{m1 e1:Nat}{a2:Option Addr}{n2 c2:Nat}{k2:Option Addr}{m2 e2:Nat}(h1:ItV d S X x1 a1 n1 c1 k1 m1 e1)(h2:ItV d S X x2 a2 n2 c2 k2 m2 e2){T:Nat→Prop}(hs:∀ b,S b→T b)(hT:T X.heap.size){W:World}{t:Nat}(hW:W=X.alloc (.cells #[.int .i64 x1.cls,.int .i64 x1.tag,.bool x1.cons,.slice a1 n1 c1,.slice k1 m1 e1,.int .i64 x2.cls,.int .i64 x2.tag,.bool x2.cons,.slice a2 n2 c2,.slice k2 m2 e2] t)):KidsI (d+1) T W (some ⟨X.heap.size,0,none⟩) 2 [x1,x2]:=by
 subst hW
 have hb:Below X.heap.size X (X.alloc (.cells #[.int .i64 x1.cls,.int .i64 x1.tag,.bool x1.cons,.slice a1 n1 c1,.slice k1 m1 e1,.int .i64 x2.cls,.int .i64 x2.tag,.bool x2.cons,.slice a2 n2 c2,.slice k2 m2 e2] t)):=(Below.refl _ _).alloc (Nat.le_refl _) _
 have hc:=fun j=>cell_of_row _ X.heap.size j _ t (0,0) (heap_alloc_new X (.cells #[.int .i64 x1.cls,.int .i64 x1.tag,.bool x1.cons,.slice a1 n1 c1,.slice k1 m1 e1,.int .i64 x2.cls,.int .i64 x2.tag,.bool x2.cons,.slice a2 n2 c2,.slice k2 m2 e2] t))
 have g1:=(h1.kept hb).mono hs
 have g2:=(h2.kept hb).mono hs
 refine ⟨rfl,by decide,fun k hk=>⟨X.heap.size,0,rfl,by simp,hT,?_⟩⟩
 rcases (show k=0∨k=1 by omega) with rfl | rfl
 ·exact ⟨a1,n1,c1,k1,m1,e1,(hc 0).trans rfl,(hc 1).trans rfl,(hc 2).trans rfl,(hc 3).trans rfl,(hc 4).trans rfl,g1.row,g1.nil,g1.max,g1.kids⟩
 ·exact ⟨a2,n2,c2,k2,m2,e2,(hc 5).trans rfl,(hc 6).trans rfl,(hc 7).trans rfl,(hc 8).trans rfl,(hc 9).trans rfl,g2.row,g2.nil,g2.max,g2.kids⟩
theorem kidsI_n4 {d:Nat}{S:Nat→Prop}{X:World}{x1 x2 x3 x4:It}{a1:Option Addr}{n1 c1:Nat}{k1:Option Addr}{m1 e1:Nat}{a2:Option Addr}{n2 c2:Nat}{k2:Option Addr}{m2 e2:Nat}{a3:Option Addr}{n3 c3:Nat}{k3:Option Addr}{m3 e3:Nat}{a4:Option Addr}{n4 c4:Nat}{k4:Option Addr}{m4 e4:Nat}(h1:ItV d S X x1 a1 n1 c1 k1 m1 e1)(h2:ItV d S X x2 a2 n2 c2 k2 m2 e2)(h3:ItV d S X x3 a3 n3 c3 k3 m3 e3)(h4:ItV d S X x4 a4 n4 c4 k4 m4 e4){T:Nat→Prop}(hs:∀ b,S b→T b)(hT:T X.heap.size){W:World}{t:Nat}(hW:W=X.alloc (.cells #[.int .i64 x1.cls,.int .i64 x1.tag,.bool x1.cons,.slice a1 n1 c1,.slice k1 m1 e1,.int .i64 x2.cls,.int .i64 x2.tag,.bool x2.cons,.slice a2 n2 c2,.slice k2 m2 e2,.int .i64 x3.cls,.int .i64 x3.tag,.bool x3.cons,.slice a3 n3 c3,.slice k3 m3 e3,.int .i64 x4.cls,.int .i64 x4.tag,.bool x4.cons,.slice a4 n4 c4,.slice k4 m4 e4] t)):KidsI (d+1) T W (some ⟨X.heap.size,0,none⟩) 4 [x1,x2,x3,x4]:=by
 subst hW
 have hb:Below X.heap.size X (X.alloc (.cells #[.int .i64 x1.cls,.int .i64 x1.tag,.bool x1.cons,.slice a1 n1 c1,.slice k1 m1 e1,.int .i64 x2.cls,.int .i64 x2.tag,.bool x2.cons,.slice a2 n2 c2,.slice k2 m2 e2,.int .i64 x3.cls,.int .i64 x3.tag,.bool x3.cons,.slice a3 n3 c3,.slice k3 m3 e3,.int .i64 x4.cls,.int .i64 x4.tag,.bool x4.cons,.slice a4 n4 c4,.slice k4 m4 e4] t)):=(Below.refl _ _).alloc (Nat.le_refl _) _
 have hc:=fun j=>cell_of_row _ X.heap.size j _ t (0,0) (heap_alloc_new X (.cells #[.int .i64 x1.cls,.int .i64 x1.tag,.bool x1.cons,.slice a1 n1 c1,.slice k1 m1 e1,.int .i64 x2.cls,.int .i64 x2.tag,.bool x2.cons,.slice a2 n2 c2,.slice k2 m2 e2,.int .i64 x3.cls,.int .i64 x3.tag,.bool x3.cons,.slice a3 n3 c3,.slice k3 m3 e3,.int .i64 x4.cls,.int .i64 x4.tag,.bool x4.cons,.slice a4 n4 c4,.slice k4 m4 e4] t))
 have g1:=(h1.kept hb).mono hs
 have g2:=(h2.kept hb).mono hs
 have g3:=(h3.kept hb).mono hs
 have g4:=(h4.kept hb).mono hs
 refine ⟨rfl,by decide,fun k hk=>⟨X.heap.size,0,rfl,by simp,hT,?_⟩⟩
 rcases (show k=0∨k=1∨k=2∨k=3 by omega) with rfl | rfl | rfl | rfl
 ·exact ⟨a1,n1,c1,k1,m1,e1,(hc 0).trans rfl,(hc 1).trans rfl,(hc 2).trans rfl,(hc 3).trans rfl,(hc 4).trans rfl,g1.row,g1.nil,g1.max,g1.kids⟩
 ·exact ⟨a2,n2,c2,k2,m2,e2,(hc 5).trans rfl,(hc 6).trans rfl,(hc 7).trans rfl,(hc 8).trans rfl,(hc 9).trans rfl,g2.row,g2.nil,g2.max,g2.kids⟩
 ·exact ⟨a3,n3,c3,k3,m3,e3,(hc 10).trans rfl,(hc 11).trans rfl,(hc 12).trans rfl,(hc 13).trans rfl,(hc 14).trans rfl,g3.row,g3.nil,g3.max,g3.kids⟩
 ·exact ⟨a4,n4,c4,k4,m4,e4,(hc 15).trans rfl,(hc 16).trans rfl,(hc 17).trans rfl,(hc 18).trans rfl,(hc 19).trans rfl,g4.row,g4.nil,g4.max,g4.kids⟩
def W64 (n:Int):Prop:=-9223372036854775808≤n∧n≤9223372036854775807
end Go.Proofs.YtnmplldhdfingaaGreatDoor
