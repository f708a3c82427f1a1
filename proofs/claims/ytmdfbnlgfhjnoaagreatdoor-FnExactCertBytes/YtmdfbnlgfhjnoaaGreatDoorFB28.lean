import Derived.Test.YtmdfbnlgfhjnoaaGreatDoorFB20
import Derived.Handy
import Derived.Deep.DeepCutAuto
import Derived.Test.YtmdfbnlgfhjnoaaGreatDoorFB27
set_option maxRecDepth 10000
set_option maxHeartbeats 8000000
set_option linter.unusedVariables false
namespace Go.Proofs.YtmdfbnlgfhjnoaaGreatDoor
open Go.RowKit Go.Sort
def KidZ (L B:Nat)(w:World)(g d:Nat)(ks:List It):Prop:=∃ S:Nat→Prop,KidsI d S w (some ⟨g,0,none⟩) ks.length ks∧∀ b,S b→(b<L∨B≤b)∧b<w.heap.size
theorem KidZ.kept {L:Nat}{B:Nat}{w w':World}{g d:Nat}{ks:List It}(h:KidZ L B w g d ks)(hb:Below w.heap.size w w'):KidZ L B w' g d ks:=by
 obtain ⟨S,h1,h2⟩:=h
 exact ⟨S,h1.touch (P:=fun _=>False) (fun _ _ h=>h) (TouchX.of_below hb),fun b hs=>⟨(h2 b hs).1,Nat.lt_of_lt_of_le (h2 b hs).2 hb.size⟩⟩
theorem KidZ.touched {L:Nat}{B:Nat}{w w':World}{g d gb:Nat}{ks:List It}(h:KidZ L B w g d ks)(ht:Touch gb (gb+1) w w')(hlt:L≤gb∧gb<B):KidZ L B w' g d ks:=by
 obtain ⟨S,h1,h2⟩:=h
 exact ⟨S,h1.touch (fun b hb e=>by have:=(h2 b hb).1; omega) ht.toX,fun b hs=>⟨(h2 b hs).1,Nat.lt_of_lt_of_le (h2 b hs).2 ht.size⟩⟩
def OwnItZ (d L R:Nat)(w:World)(a:Option Addr)(n c:Nat)(xs:List It):Prop:=OwnIts d (fun b=>(b<L∨R≤b)∧b<w.heap.size∧(Value.slice a n c).ownBlock≠some b) w a n c xs∧∀ b,(Value.slice a n c).ownBlock=some b→R≤b
theorem ownItZ_none (d L R:Nat)(w:World):OwnItZ d L R w none 0 0 []:=⟨(OwnIts.nil d w).mono (fun _ h=>h.elim) (fun b hb=>by cases hb),fun b hb=>by cases hb⟩
theorem OwnItZ.kept {L:Nat}{d R:Nat}{w w':World}{a:Option Addr}{n c:Nat}{xs:List It}(h:OwnItZ d L R w a n c xs)(hb:Below w.heap.size w w'):OwnItZ d L R w' a n c xs :=
 ⟨(h.1.kept hb).mono (fun k hk=>⟨hk.1,Nat.lt_of_lt_of_le hk.2.1 hb.size,hk.2.2⟩) (fun b hb hc=>hc.2.2 hb),h.2⟩
theorem OwnItZ.appended {L:Nat}{d R:Nat}{w1 w:World}{a:Option Addr}{n c:Nat}{xs:List It}{y:It}{ab:Option Addr}{nb cb:Nat}{ak:Option Addr}{nk ck:Nat}{g' c':Nat}{T:Nat→Prop}
  (h:OwnItZ d L R w a n c xs) (hy:ItV d T w y ab nb cb ak nk ck) (hT:∀ b,T b→(b<L∨R≤b)∧b<w.heap.size∧(Value.slice a n c).ownBlock≠some b) (hn:n+1≤9223372036854775807)
  {vs:List Value} (hv0:w.ownsRow 0 75 5 (.slice a n c) n vs) (hv:w1.ownsRow 0 75 5 (.slice (some ⟨g',0,none⟩) (n+1) c') (n+1) (vs++itc y ab nb cb ak nk ck)) (hg:w.grownBy w1 (Value.slice a n c).ownBlock) (hl:(Value.slice a n c).ownBlock=some g'∨g'=w.heap.size) (hR:R≤w.heap.size):OwnItZ d L R w1 (some ⟨g',0,none⟩) (n+1) c' (xs++[y]):=by
 refine ⟨((h.1.appended (hy.mono hT) (fun b hb=>hb) (fun b hb hc=>hc.2.2 hb) (fun b hb=>hb.2.1) hn hv0 hv hg hl)).mono (fun k hk=>⟨hk.1,Nat.lt_of_lt_of_le hk.2.1 hg.size,fun e=>?_⟩) (fun b hb hc=>hc.2.2 hb),fun b hb=>?_⟩
 ·have e2:g'=k:=by injection e
  rcases hl with hl | hl
  ·exact hk.2.2 (by rw [hl,e2])
  ·have:=hk.2.1
   omega
 ·have e2:g'=b:=by injection hb
  rcases hl with hl | hl
  ·rw [← e2]; exact h.2 g' hl
  ·omega
theorem OwnItZ.row {L:Nat}{d R:Nat}{w:World}{a:Option Addr}{n c:Nat}{xs:List It}(h:OwnItZ d L R w a n c xs):∃ vs,w.ownsRow 0 75 5 (.slice a n c) n vs:=by
 obtain ⟨vs,h1,_⟩:=h.1.own
 exact ⟨vs,h1⟩
theorem OwnItZ.kids {L:Nat}{d R:Nat}{w:World}{a:Option Addr}{n c:Nat}{xs:List It}(h:OwnItZ d L R w a n c xs):KidsI (d+1) (fun b=>(b<L∨R≤b)∧b<w.heap.size) w a n xs:=by
 obtain ⟨vs,hv⟩:=h.row
 exact h.1.kids (fun k hk=>⟨hk.1,hk.2.1⟩) (fun b hb=>⟨.inr (h.2 b hb),(hv.lt b hb).2⟩)
theorem KidZ.grown {L:Nat}{R:Nat}{w w':World}{g d:Nat}{ks:List It}{row:Option Nat}(h:KidZ L R w g d ks)(hg:w.grownBy w' row)(hlt:∀ j,row=some j→L≤j∧j<R):KidZ L R w' g d ks:=by
 obtain ⟨S,h1,h2⟩:=h
 exact ⟨S,h1.touch (fun k hk e=>by have:=hlt k e; have:=(h2 k hk).1; omega) (touchX_g hg (P:=fun k=>row=some k) (fun k hk=>hk)),fun b hb=>⟨(h2 b hb).1,Nat.lt_of_lt_of_le (h2 b hb).2 hg.size⟩⟩
structure ItZ (L B d:Nat)(w:World)(x:It)(ab:Option Addr)(nb cb:Nat)(ak:Option Addr)(nk ck:Nat):Prop where
 it:ItV d (fun b=>(b<L∨B≤b)∧b<w.heap.size) w x ab nb cb ak nk ck
theorem ItZ.kept {L:Nat}{B d:Nat}{w w':World}{x:It}{ab:Option Addr}{nb cb:Nat}{ak:Option Addr}{nk ck:Nat}(h:ItZ L B d w x ab nb cb ak nk ck)(hb:Below w.heap.size w w'):ItZ L B d w' x ab nb cb ak nk ck:=⟨(h.it.kept hb).mono (fun b hs=>⟨hs.1,Nat.lt_of_lt_of_le hs.2 hb.size⟩)⟩
theorem ItZ.touched {L:Nat}{B d gb:Nat}{w w':World}{x:It}{ab:Option Addr}{nb cb:Nat}{ak:Option Addr}{nk ck:Nat}(h:ItZ L B d w x ab nb cb ak nk ck)(ht:Touch gb (gb+1) w w')(hlt:L≤gb∧gb<B):ItZ L B d w' x ab nb cb ak nk ck:=⟨(h.it.touch (fun b hs e=>by have:=hs.1; omega) ht.toX).mono (fun b hs=>⟨hs.1,Nat.lt_of_lt_of_le hs.2 ht.size⟩)⟩
theorem ItZ.mono {L:Nat}{B B' d:Nat}{w:World}{x:It}{ab:Option Addr}{nb cb:Nat}{ak:Option Addr}{nk ck:Nat}(h:ItZ L B d w x ab nb cb ak nk ck)(hB:B'≤B):ItZ L B' d w x ab nb cb ak nk ck:=⟨h.it.mono (fun b hs=>⟨by have:=hs.1; omega,hs.2⟩)⟩
theorem ItZ.more {L:Nat}{B d:Nat}{w:World}{x:It}{ab:Option Addr}{nb cb:Nat}{ak:Option Addr}{nk ck:Nat}(h:ItZ L B d w x ab nb cb ak nk ck):ItZ L B (d+1) w x ab nb cb ak nk ck:=⟨h.it.more⟩
theorem KidZ.itz {L:Nat}{B:Nat}{w:World}{g d ck:Nat}{ks:List It}(h:KidZ L B w g d ks)(cls tag:Int):ItZ L B d w (.mk cls tag true [] ks) none 0 0 (some ⟨g,0,none⟩) ks.length ck:=by
 obtain ⟨S,h1,h2⟩:=h
 exact ⟨⟨⟨⟨rfl,fun j hj=>absurd hj (Nat.not_lt_zero _),by simp [It.body]⟩,fun x hx=>by cases hx⟩,fun _=>rfl,by decide,h1.mono h2⟩⟩
structure ListZ (L B d:Nat)(w:World)(ao:Option Addr)(n:Nat)(ks:List It):Prop where
 kids:KidsI d (fun b=>(b<L∨B≤b)∧b<w.heap.size) w ao n ks
theorem ListZ.kept {L:Nat}{B d:Nat}{w w':World}{ao:Option Addr}{n:Nat}{ks:List It}(h:ListZ L B d w ao n ks)(hb:Below w.heap.size w w'):ListZ L B d w' ao n ks:=⟨(h.kids.touch (P:=fun _=>False) (fun _ _ h=>h) (TouchX.of_below hb)).mono (fun b hs=>⟨hs.1,Nat.lt_of_lt_of_le hs.2 hb.size⟩)⟩
theorem ListZ.touched {L:Nat}{B d gb:Nat}{w w':World}{ao:Option Addr}{n:Nat}{ks:List It}(h:ListZ L B d w ao n ks)(ht:Touch gb (gb+1) w w')(hlt:L≤gb∧gb<B):ListZ L B d w' ao n ks:=⟨(h.kids.touch (fun b hs e=>by have:=hs.1; omega) ht.toX).mono (fun b hs=>⟨hs.1,Nat.lt_of_lt_of_le hs.2 ht.size⟩)⟩
theorem ListZ.itz {L:Nat}{B d:Nat}{w:World}{ao:Option Addr}{n co:Nat}{ks:List It}(h:ListZ L B d w ao n ks):ItZ L B d w (lstI ks) none 0 0 ao n co:=⟨⟨⟨⟨rfl,fun j hj=>absurd hj (Nat.not_lt_zero _),by simp [lstI,It.body]⟩,fun x hx=>by cases hx⟩,fun _=>rfl,by decide,h.kids⟩⟩
theorem kidZ_n2 {L:Nat}{B d:Nat}{X:World}{x1 x2:It}{a1:Option Addr}{n1 c1:Nat}{k1:Option Addr}{m1 e1:Nat}{a2:Option Addr}{n2 c2:Nat}{k2:Option Addr}{m2 e2:Nat}{t:Nat}(hB:B≤X.heap.size)(h1:ItZ L B d X x1 a1 n1 c1 k1 m1 e1)(h2:ItZ L B d X x2 a2 n2 c2 k2 m2 e2):KidZ L B (X.alloc (.cells #[.int .i64 x1.cls,.int .i64 x1.tag,.bool x1.cons,.slice a1 n1 c1,.slice k1 m1 e1,.int .i64 x2.cls,.int .i64 x2.tag,.bool x2.cons,.slice a2 n2 c2,.slice k2 m2 e2] t)) X.heap.size (d+1) [x1,x2]:=by
 refine ⟨fun b=>(b<L∨B≤b)∧b<X.heap.size+1,kidsI_n2 (S:=fun b=>(b<L∨B≤b)∧b<X.heap.size) h1.it h2.it (fun b hb=>⟨hb.1,by have:=hb.2; omega⟩) ⟨.inr hB,by omega⟩ rfl,fun b hb=>⟨hb.1,?_⟩⟩
 have s:(X.alloc (.cells #[.int .i64 x1.cls,.int .i64 x1.tag,.bool x1.cons,.slice a1 n1 c1,.slice k1 m1 e1,.int .i64 x2.cls,.int .i64 x2.tag,.bool x2.cons,.slice a2 n2 c2,.slice k2 m2 e2] t)).heap.size=X.heap.size+1:=by simp
 have:=hb.2
 omega
theorem ItZ.grown {L:Nat}{B d:Nat}{w w':World}{x:It}{ab:Option Addr}{nb cb:Nat}{ak:Option Addr}{nk ck:Nat}{row:Option Nat}(h:ItZ L B d w x ab nb cb ak nk ck)(hg:w.grownBy w' row)(hlt:∀ j,row=some j→L≤j∧j<B):ItZ L B d w' x ab nb cb ak nk ck :=
 ⟨(h.it.touch (fun k hk e=>by have:=hlt k e; have:=hk.1; omega) (touchX_g hg (P:=fun k=>row=some k) (fun k hk=>hk))).mono (fun b hs=>⟨hs.1,Nat.lt_of_lt_of_le hs.2 hg.size⟩)⟩
theorem row_itz {L B:Nat}{w:World}{a:Option Addr}{n c:Nat}{bs:List Int}(h:Row w a n bs)(hL:∀ x,a=some x→0<n→x.block<L)(hnil:a=none→c=0)(t:Int)(hn:n≤9223372036854775807):ItZ L B 1 w (.mk 0 t false bs []) a n c none 0 0:=by
 refine ⟨⟨⟨h,fun x hx h0=>?_⟩,hnil,hn,KidsI.none 0 _ _ _⟩⟩
 obtain ⟨b,off,ha,hlt,_⟩:=h.get 0 h0
 refine ⟨.inl (hL x hx h0),?_⟩
 rw [ha] at hx
 injection hx with hx
 rw [← hx]
 exact hlt
open Go.RowKit
def flat (ps:List (Int × Int)):List Value:=ps.flatMap fun p=>[Value.int .i64 p.1,.int .i64 p.2]
theorem flat_cons (p:Int × Int)(r:List (Int × Int)):flat (p::r)=Value.int .i64 p.1::.int .i64 p.2::flat r:=rfl
theorem flat_len (ps:List (Int × Int)):(flat ps).length=ps.length * 2:=by
 induction ps with
 | nil=>rfl
 | cons p r ih=>rw [flat_cons]; simp [ih]; omega
theorem flat_get (ps:List (Int × Int)):∀ k,k<ps.length→(flat ps)[k * 2]? = some (.int .i64 (ps.getD k (0,0)).1)∧(flat ps)[k * 2+1]? = some (.int .i64 (ps.getD k (0,0)).2):=by
 induction ps with
 | nil=>intro k h; simp at h
 | cons p r ih =>
  intro k h
  cases k with
  | zero=>simp [flat_cons]
  | succ k =>
   have:=ih k (by simpa using h)
   rw [flat_cons,show (k+1) * 2=k * 2+1+1 by omega]
   simpa using this
def Pre2 (vs:List Value)(ps:List (Int × Int))(k:Nat):Prop:=∀ j,j<k→vs[j * 2]? = some (.int .i64 (ps.getD j (0,0)).1)∧vs[j * 2+1]? = some (.int .i64 (ps.getD j (0,0)).2)
theorem Pre2.set {vs:List Value}{ps:List (Int × Int)}{k:Nat}(h:Pre2 vs ps k)(hk:k * 2+1<vs.length):Pre2 ((vs.set (k * 2) (.int .i64 (ps.getD k (0,0)).1)).set (k * 2+1) (.int .i64 (ps.getD k (0,0)).2)) ps (k+1):=by
 intro j hj
 by_cases e:j=k
 ·subst e
  refine ⟨?_,?_⟩
  ·rw [List.getElem?_set_ne (by omega),List.getElem?_set_self (by omega)]
  ·rw [List.getElem?_set_self (by simp; omega)]
 ·have h1:=h j (by omega)
  refine ⟨?_,?_⟩
  ·rw [List.getElem?_set_ne (by omega),List.getElem?_set_ne (by omega)]; exact h1.1
  ·rw [List.getElem?_set_ne (by omega),List.getElem?_set_ne (by omega)]; exact h1.2
theorem Pre2.all {vs:List Value}{ps:List (Int × Int)}{n:Nat}(h:Pre2 vs ps n)(hv:vs.length=n * 2)(hp:ps.length=n):vs=flat ps:=by
 apply List.ext_getElem?
 intro i
 by_cases hi:i<n * 2
 ·have h1:=h (i / 2) (by omega)
  have h2:=flat_get ps (i / 2) (by omega)
  rcases Nat.mod_two_eq_zero_or_one i with e | e
  ·have ei:i / 2 * 2=i:=by omega
   rw [ei] at h1 h2
   exact h1.1.trans h2.1.symm
  ·have ei:i / 2 * 2+1=i:=by omega
   rw [ei] at h1 h2
   exact h1.2.trans h2.2.symm
 ·rw [List.getElem?_eq_none (by omega),List.getElem?_eq_none (by rw [flat_len]; omega)]
structure OwnPm (lo hi:Nat)(w:World)(a:Option Addr)(n cap:Nat)(ps:List (Int × Int)):Prop where
 row:w.ownsRow lo 115 2 (.slice a n cap) n (flat ps)
 max:n≤9223372036854775807
 lt:∀ x,a=some x→x.block<hi
theorem OwnPm.len {lo hi:Nat}{w:World}{a:Option Addr}{n cap:Nat}{ps:List (Int × Int)}(h:OwnPm lo hi w a n cap ps):ps.length=n:=by
 have:=h.row.1
 rw [flat_len] at this
 omega
theorem OwnPm.toPms {lo hi:Nat}{w:World}{a:Option Addr}{n cap:Nat}{ps:List (Int × Int)}(h:OwnPm lo hi w a n cap ps):Pms w a n ps:=by
 refine ⟨h.len,h.max,fun k hk=>?_⟩
 have hf:=flat_get ps k (by rw [h.len]; exact hk)
 rcases h.row.2 with ⟨_,h0⟩ | ⟨g,cap',cur,hv,hb,hg,_⟩
 ·omega
 ·simp only [Value.slice.injEq] at hv
  obtain ⟨rfl,_,rfl⟩:=hv
  exact ⟨g,0,rfl,(Array.getElem?_eq_some_iff.1 hg).1,by rw [Nat.zero_add,h.row.cellAt _ (by omega)]; exact hf.1,by rw [Nat.zero_add,h.row.cellAt _ (by omega)]; exact hf.2⟩
theorem Tryz.infoPolMap:(Tryz.prog.info? 115).map (fun i=>(i.zero,i.size,i.bytes))=some (some (.agg #[.int .i64 0,.int .i64 0]),2,16):=by kernel_rfl
theorem results_pm {fn:Func}{t:Tmp}(h:fn.results=#[.cell t 115])(tmps:Array Value)(g:Nat)(ht:tmps.getD t undef=.pointer (some ⟨g,0,none⟩))(w:World)(p:Int × Int)
  (hb:w.heap[g]? = some (.cells #[.int .i64 p.1,.int .i64 p.2] 115 (0,0))):(results fn tmps).run Tryz.prog w=.ok (pmv p) w:=by
 have d0:w.cell? ⟨g,0,none⟩=some (.int .i64 p.1):=(cell_of_row _ g 0 _ 115 (0,0) hb).trans rfl
 have d1:w.cell? ⟨g,1,none⟩=some (.int .i64 p.2):=(cell_of_row _ g 1 _ 115 (0,0) hb).trans rfl
 clear hb
 have ht':tmps[t]?.getD undef=.pointer (some ⟨g,0,none⟩):=by rw [← ht]; simp
 simp [results,h,go_sem,ht',d0,d1,pmv]
theorem alloc_oldP (w:World)(o:Obj)(g:Nat)(hg:g<w.heap.size):(w.alloc o).heap[g]? = w.heap[g]?:=((Below.refl w.heap.size w).alloc (Nat.le_refl _) o).block g hg
theorem toPolMap_any (p:Int × Int)(w:World) :
  Calls Tryz.prog 92 #[pmv p] w fun e w'=>e=.returned (pmv p)∧Below w.heap.size w w':=by
 obtain ⟨a,b⟩:=p
 have b1:((((w.alloc (.cells #[.int .i64 a,.int .i64 b] 130)).alloc (.cells #[.int .i64 a,.int .i64 b] 115)).alloc (.cells #[.int .i64 a,.int .i64 b] 115))).heap[w.heap.size+1]? = some (.cells #[.int .i64 a,.int .i64 b] 115):=by
  have s1:(w.alloc (.cells #[.int .i64 a,.int .i64 b] 130)).heap.size=w.heap.size+1:=by simp
  exact (alloc_oldP _ _ _ (by simp)).trans (by rw [← s1]; exact heap_alloc_new _ _)
 have HB1:Hid (_=_):=b1
 clear b1
 unfold pmv
 go_enter Tryz.func92,Tryz.ntmps92
 go_wp2
 try simp only [Exit.inBlock,Exit.then]
 exact bodyPost_ret (results_pm (p:=(a,b)) rfl _ (w.heap.size+1) rfl _ HB1.out) rfl ⟨rfl,(((Below.refl _ _).alloc (Nat.le_refl _) _).alloc (by simp) _).alloc (by simp; omega) _⟩
theorem toPolMapS_any (a:Option Addr)(n c:Nat)(ps:List (Int × Int))(w:World)(h:Pms w a n ps)(hn:n≤1048576) :
  Calls Tryz.prog 41 #[.slice a n c] w fun e w'=>∃ ar,e=.returned (.slice ar n n)∧OwnPm w.heap.size w'.heap.size w' ar n n ps∧Below w.heap.size w w':=by
 obtain ⟨i0,hi,hz0,hz1,hz2⟩:=info_parts Tryz.infoPolMap
 have H0:Hid (Pms w a n ps):=h
 have HL:Hid (ps.length=n):=h.len
 clear h
 go_enter Tryz.func41,Tryz.ntmps41
 go_wp2_with (first | (at_make; refine wpList_make_full _ rfl _ _ 43 rfl w.heap.size 115 i0 _ 2 Tryz.underlying43 hi hz0 hz1 _ _ _ _ n rfl rfl rfl rfl (by rw [hz2]; omega) (by unfold maxLen; omega) (by exact Nat.le_refl _) ?_; intro w2 hown hgrow))
 have hbl:Below w.heap.size w w2:=(Below.refl _ _).grown hgrow (Nat.le_refl _) (by simp)
 clear hgrow hi hz0 hz1 hz2
 go_loopw [4] (fun i wr=>∃ k:Nat,k≤n∧i=.int .i64 k∧(∃ vs,wr.ownsRow w.heap.size 115 2 (.slice (some ⟨w.heap.size,0,none⟩) n n) n vs∧Pre2 vs ps k)∧Below w.heap.size w wr) (fun i _=>n - (intOf i).toNat)
 case atStart=>exact ⟨0,Nat.zero_le _,rfl,⟨_,hown,fun j hj=>absurd hj (Nat.not_lt_zero _)⟩,hbl⟩
 case round =>
  obtain ⟨k,hk,rfl,⟨vs,hor,hpre⟩,hbr⟩:=hrel
  by_cases hkn:k<n
  ·obtain ⟨b,off,rfl,hlb,x0,x1⟩:=(H0.out.kept hbr).get k hkn
   obtain ⟨p,hp⟩:∃ p,p=ps.getD k (0,0):=⟨_,rfl⟩
   rw [← hp] at x0 x1
   have HP:Hid (ps.getD k (0,0)=p):=hp.symm
   have hkni:(k:Int)<(n:Int):=by omega
   have HPRE:Hid (Pre2 vs ps k):=hpre
   have HOR:Hid (_):=hor
   have hws:=hbr.size
   clear hp hpre hor hown hbl
   go_wp2_with fail
   refine (toPolMap_any p _).mono ?_
   rintro e w3 ⟨rfl,hb3⟩
   have hor3:=ownsRow_below HOR.out hb3
   have hvl:vs.length=n * 2:=hor3.1
   have f0:w3.frozen? ⟨w.heap.size,k * 2,none⟩=false:=hor3.frozenAt _
   have f1:w3.frozen? ⟨w.heap.size,k * 2+1,none⟩=false:=hor3.frozenAt _
   obtain ⟨y0,hy0⟩:∃ y,w3.cell? ⟨w.heap.size,k * 2,none⟩=some y:=⟨_,(hor3.cellAt _ (by omega)).trans (List.getElem?_eq_getElem (by omega))⟩
   obtain ⟨y1,hy1⟩:∃ y,w3.cell? ⟨w.heap.size,k * 2+1,none⟩=some y:=⟨_,(hor3.cellAt _ (by omega)).trans (List.getElem?_eq_getElem (by omega))⟩
   have hP:=HPRE.out.set (by omega)
   rw [HP.out] at hP
   have hO:=((hor3.stored (k * 2) (.int .i64 p.1)).1.stored (k * 2+1) (.int .i64 p.2)).1
   have hB:Below w.heap.size w ((w3.setCell ⟨w.heap.size,k * 2,none⟩ (.int .i64 p.1)).setCell ⟨w.heap.size,k * 2+1,none⟩ (.int .i64 p.2)):=((keepP hbr hb3).setCell (Nat.le_refl _) _).setCell (Nat.le_refl _) _
   have FIN:Hid (_∧_∧_):=⟨hO,hP,hB⟩
   clear hP hO hB hor3 hb3 hbr HPRE HOR
   rw [pmv]
   go_wp2
   go_roundw
   case rel=>exact ⟨k+1,by omega,by go_num,⟨_,FIN.out.1,FIN.out.2.1⟩,FIN.out.2.2⟩
   case measure=>simp [intOf]; omega
  ·obtain rfl:k=n:=by omega
   have hvs:=hpre.all hor.1 HL.out
   rw [hvs] at hor
   have FIN:Hid (OwnPm w.heap.size wr.heap.size wr (some ⟨w.heap.size,0,none⟩) k k ps∧_):=⟨⟨hor,by omega,fun x hx=>by cases hx; exact (hor.lt _ rfl).2⟩,hbr⟩
   clear hor hpre hbr hvs hown hbl
   go_wp2
   go_ret
   exact ⟨_,rfl,FIN.out.1,FIN.out.2⟩
open Go.RowKit
def SaysP (P:Prop)(w:World)(e:Ending)(w':World):Prop:=∃ b,e=.returned (.bool b)∧Hid (b=true↔P)∧Below w.heap.size w w'
theorem saysP_t {P:Prop}{w w':World}(h:P)(hb:Below w.heap.size w w'):SaysP P w (.returned (.bool true)) w':=⟨true,rfl,⟨fun _=>h,fun _=>rfl⟩,hb⟩
theorem saysP_f {P:Prop}{w w':World}(h:¬ P)(hb:Below w.heap.size w w'):SaysP P w (.returned (.bool false)) w':=⟨false,rfl,⟨fun e=>(by cases e),fun e=>absurd e h⟩,hb⟩
theorem isPolicy_any (x:Int)(w:World):Calls Tryz.prog 209 #[.int .i64 x] w fun e w'=>e=.returned (.bool (decide (1≤x∧x≤1000)))∧w'=w:=by
 by_cases h:1≤x∧x≤1000
 ·rw [decide_eq_true h]
  go_enter Tryz.func209,Tryz.ntmps209
  go_wp2_with fail
  refine (inBounds_t x 1 1000 _ h).mono ?_
  rintro e w1 ⟨rfl,rfl⟩
  go_wp2
  go_ret
  exact ⟨rfl,rfl⟩
 ·rw [decide_eq_false h]
  go_enter Tryz.func209,Tryz.ntmps209
  go_wp2_with fail
  refine (inBounds_f x 1 1000 _ h).mono ?_
  rintro e w1 ⟨rfl,rfl⟩
  go_wp2
  go_ret
  exact ⟨rfl,rfl⟩
theorem isPolicyOrAny_any (x:Int)(w:World):Calls Tryz.prog 142 #[.int .i64 x] w fun e w'=>e=.returned (.bool (decide (0≤x∧x≤1000)))∧w'=w:=by
 by_cases h:0≤x∧x≤1000
 ·rw [decide_eq_true h]
  go_enter Tryz.func142,Tryz.ntmps142
  go_wp2_with fail
  refine (inBounds_t x 0 1000 _ h).mono ?_
  rintro e w1 ⟨rfl,rfl⟩
  go_wp2
  go_ret
  exact ⟨rfl,rfl⟩
 ·rw [decide_eq_false h]
  go_enter Tryz.func142,Tryz.ntmps142
  go_wp2_with fail
  refine (inBounds_f x 0 1000 _ h).mono ?_
  rintro e w1 ⟨rfl,rfl⟩
  go_wp2
  go_ret
  exact ⟨rfl,rfl⟩
theorem everyPol_any (a:Option Addr)(n c:Nat)(zs:List Int)(w:World)(h:Row64 w a n zs)(hn:n≤9223372036854775807) :
  Calls Tryz.prog 141 #[.slice a n c,.func (Fn.func 142) #[] #[]] w (SaysP (∀ j,j<zs.length→0≤zs.getD j 0∧zs.getD j 0≤1000) w):=by
 have H0:Hid (Row64 w a n zs):=h
 have HL:Hid (zs.length=n):=h.len
 clear h
 go_enter Tryz.func141,Tryz.ntmps141
 go_wp2
 go_loopw [9] (fun i wr=>∃ k:Nat,k≤n∧i=.int .i64 k∧Hid (∀ j,j<k→0≤zs.getD j 0∧zs.getD j 0≤1000)∧w=wr) (fun i _=>n - (intOf i).toNat)
 case atStart=>exact ⟨0,Nat.zero_le _,rfl,fun k hk=>absurd hk (Nat.not_lt_zero _),rfl⟩
 case round =>
  obtain ⟨k,hk,rfl,HE,rfl⟩:=hrel
  by_cases hlt:k<n
  ·obtain ⟨b,off,rfl,hb,hc⟩:=H0.out.get k hlt
   obtain ⟨z,hz⟩:∃ z,z=zs.getD k 0:=⟨_,rfl⟩
   rw [← hz] at hc
   have HZ:Hid (z=zs.getD k 0):=hz
   have hlti:(k:Int)<(n:Int):=by omega
   clear hz
   go_wp2_with fail
   refine (isPolicyOrAny_any z _).mono ?_
   rintro e w2 ⟨rfl,rfl⟩
   by_cases h0:0≤z∧z≤1000
   ·rw [decide_eq_true h0]
    have HN:Hid (∀ j,j<k+1→0≤zs.getD j 0∧zs.getD j 0≤1000):=fun j hj=>by
     by_cases e:j<k
     ·exact HE.out j e
     ·obtain rfl:j=k:=by omega
      rw [← HZ.out]; exact h0
    clear h0 HE
    go_wp2
    go_roundw
    case rel=>exact ⟨k+1,by omega,by go_num,HN,by trivial⟩
    case measure=>simp [intOf]; omega
   ·rw [decide_eq_false h0]
    have HN:Hid (¬ (∀ j,j<zs.length→0≤zs.getD j 0∧zs.getD j 0≤1000)):=fun e=>h0 (by rw [HZ.out]; exact e k (by rw [HL.out]; exact hlt))
    clear h0 HE
    go_wp2
    go_ret
    exact saysP_f HN.out (Below.refl _ _)
  ·obtain rfl:k=n:=by omega
   go_wp2
   go_ret
   exact saysP_t (fun j hj=>HE.out j (by rw [HL.out] at hj; exact hj)) (Below.refl _ _)
theorem limitOk_any (x:Int)(w:World):Calls Tryz.prog 145 #[.int .i64 x] w fun e w'=>e=.returned (.bool (decide ((-1)≤x∧x≤10)))∧w'=w:=by
 by_cases h:(-1)≤x∧x≤10
 ·rw [decide_eq_true h]
  go_enter Tryz.func145,Tryz.ntmps145
  go_wp2_with fail
  refine (inBounds_t x (-1) 10 _ h).mono ?_
  rintro e w1 ⟨rfl,rfl⟩
  go_wp2
  go_ret
  exact ⟨rfl,rfl⟩
 ·rw [decide_eq_false h]
  go_enter Tryz.func145,Tryz.ntmps145
  go_wp2_with fail
  refine (inBounds_f x (-1) 10 _ h).mono ?_
  rintro e w1 ⟨rfl,rfl⟩
  go_wp2
  go_ret
  exact ⟨rfl,rfl⟩
theorem everyLim_any (a:Option Addr)(n c:Nat)(zs:List Int)(w:World)(h:Row64 w a n zs)(hn:n≤9223372036854775807) :
  Calls Tryz.prog 141 #[.slice a n c,.func (Fn.func 145) #[] #[]] w (SaysP (∀ j,j<zs.length→(-1)≤zs.getD j 0∧zs.getD j 0≤10) w):=by
 have H0:Hid (Row64 w a n zs):=h
 have HL:Hid (zs.length=n):=h.len
 clear h
 go_enter Tryz.func141,Tryz.ntmps141
 go_wp2
 go_loopw [9] (fun i wr=>∃ k:Nat,k≤n∧i=.int .i64 k∧Hid (∀ j,j<k→(-1)≤zs.getD j 0∧zs.getD j 0≤10)∧w=wr) (fun i _=>n - (intOf i).toNat)
 case atStart=>exact ⟨0,Nat.zero_le _,rfl,fun k hk=>absurd hk (Nat.not_lt_zero _),rfl⟩
 case round =>
  obtain ⟨k,hk,rfl,HE,rfl⟩:=hrel
  by_cases hlt:k<n
  ·obtain ⟨b,off,rfl,hb,hc⟩:=H0.out.get k hlt
   obtain ⟨z,hz⟩:∃ z,z=zs.getD k 0:=⟨_,rfl⟩
   rw [← hz] at hc
   have HZ:Hid (z=zs.getD k 0):=hz
   have hlti:(k:Int)<(n:Int):=by omega
   clear hz
   go_wp2_with fail
   refine (limitOk_any z _).mono ?_
   rintro e w2 ⟨rfl,rfl⟩
   by_cases h0:(-1)≤z∧z≤10
   ·rw [decide_eq_true h0]
    have HN:Hid (∀ j,j<k+1→(-1)≤zs.getD j 0∧zs.getD j 0≤10):=fun j hj=>by
     by_cases e:j<k
     ·exact HE.out j e
     ·obtain rfl:j=k:=by omega
      rw [← HZ.out]; exact h0
    clear h0 HE
    go_wp2
    go_roundw
    case rel=>exact ⟨k+1,by omega,by go_num,HN,by trivial⟩
    case measure=>simp [intOf]; omega
   ·rw [decide_eq_false h0]
    have HN:Hid (¬ (∀ j,j<zs.length→(-1)≤zs.getD j 0∧zs.getD j 0≤10)):=fun e=>h0 (by rw [HZ.out]; exact e k (by rw [HL.out]; exact hlt))
    clear h0 HE
    go_wp2
    go_ret
    exact saysP_f HN.out (Below.refl _ _)
  ·obtain rfl:k=n:=by omega
   go_wp2
   go_ret
   exact saysP_t (fun j hj=>HE.out j (by rw [HL.out] at hj; exact hj)) (Below.refl _ _)
def polsP (zs:List Int):Prop:=zs.length≤6∧(∀ j,j<zs.length→0≤zs.getD j 0∧zs.getD j 0≤1000)∧unl zs
theorem policiesOk_any (a:Option Addr)(n c:Nat)(zs:List Int)(w:World)(h:Row64 w a n zs)(hn:n≤c)(hc:c≤9223372036854775807) :
  Calls Tryz.prog 97 #[.slice a n c] w (SaysP (polsP zs) w):=by
 have H0:Hid (Row64 w a n zs):=h
 have HL:Hid (zs.length=n):=h.len
 clear h
 by_cases h6:n≤6
 ·have h6':(n:Int)≤6:=by omega
  go_enter Tryz.func97,Tryz.ntmps97
  go_wp2_with fail
  refine (everyPol_any a n c zs _ H0.out (by omega)).mono ?_
  rintro e w1 ⟨b,rfl,HB,hb1⟩
  cases b with
  | false =>
   have HN:Hid (¬ polsP zs):=fun e=>absurd (HB.out.2 e.2.1) (by decide)
   clear HB
   go_wp2
   go_ret
   exact saysP_f HN.out hb1
  | true =>
   have HT:Hid (∀ j,j<zs.length→0≤zs.getD j 0∧zs.getD j 0≤1000):=HB.out.1 rfl
   clear HB
   go_wp2_with fail
   refine (allUnlike_any a n c zs _ (H0.out.kept hb1) hn hc).mono ?_
   rintro e w2 ⟨rfl,rfl⟩
   have FIN:Hid (decide (unl zs)=true↔polsP zs):=⟨fun e=>⟨by rw [HL.out]; exact h6,HT.out,of_decide_eq_true e⟩,fun e=>decide_eq_true e.2.2⟩
   obtain ⟨d,hd⟩:∃ d,d=decide (unl zs):=⟨_,rfl⟩
   rw [← hd] at FIN ⊢
   clear hd
   go_wp2
   go_ret
   exact ⟨_,rfl,FIN,hb1⟩
 ·have h6':¬ (n:Int)≤6:=by omega
  have HN:Hid (¬ polsP zs):=fun e=>h6 (by rw [← HL.out]; exact e.1)
  go_enter Tryz.func97,Tryz.ntmps97
  go_wp2
  go_ret
  exact saysP_f HN.out (Below.refl _ _)
def mapP (p:Int × Int):Prop:=(1≤p.1∧p.1≤1000)∧(1≤p.2∧p.2≤1000)
instance (p:Int × Int):Decidable (mapP p):=by unfold mapP; infer_instance
theorem mapOk_any (p:Int × Int)(w:World):Calls Tryz.prog 179 #[pmv p] w fun e w'=>e=.returned (.bool (decide (mapP p)))∧Below w.heap.size w w':=by
 obtain ⟨x,y⟩:=p
 unfold pmv
 have hbl:Below w.heap.size w (w.alloc (.cells #[.int .i64 x,.int .i64 y] 115)):=(Below.refl _ _).alloc (Nat.le_refl _) _
 by_cases h1:1≤x∧x≤1000
 ·have HD:Hid (decide (1≤y∧y≤1000)=decide (mapP (x,y))):=by show _=_; exact decide_eq_decide.2 ⟨fun h=>⟨h1,h⟩,fun h=>h.2⟩
  have HD1:Hid (decide (1≤x∧x≤1000)=true):=decide_eq_true h1
  clear h1
  go_enter Tryz.func179,Tryz.ntmps179
  go_wp2_with fail
  refine (isPolicy_any x _).mono ?_
  rintro e w1 ⟨rfl,rfl⟩
  rw [HD1.out]
  go_wp2_with fail
  refine (isPolicy_any y _).mono ?_
  rintro e w1 ⟨rfl,rfl⟩
  rw [HD.out]
  obtain ⟨d,hd⟩:∃ d,d=decide (mapP (x,y)):=⟨_,rfl⟩
  rw [← hd]
  have HDD:Hid (d=decide (mapP (x,y))):=hd
  clear hd HD
  go_wp2
  go_ret
  exact ⟨by rw [← HDD.out]; rfl,hbl⟩
 ·have HD:Hid (decide (mapP (x,y))=false):=decide_eq_false (fun h=>h1 h.1)
  have HD1:Hid (decide (1≤x∧x≤1000)=false):=decide_eq_false h1
  clear h1
  go_enter Tryz.func179,Tryz.ntmps179
  go_wp2_with fail
  refine (isPolicy_any x _).mono ?_
  rintro e w1 ⟨rfl,rfl⟩
  rw [HD1.out]
  go_wp2
  go_ret
  exact ⟨by rw [HD.out]; rfl,hbl⟩
def mapsP (ps:List (Int × Int)):Prop:=∀ j,j<ps.length→mapP (ps.getD j (0,0))
theorem everyMap_any (a:Option Addr)(n c:Nat)(ps:List (Int × Int))(w:World)(h:Pms w a n ps) :
  Calls Tryz.prog 178 #[.slice a n c,.func (Fn.func 179) #[] #[]] w (SaysP (mapsP ps) w):=by
 have H0:Hid (Pms w a n ps):=h
 have HL:Hid (ps.length=n):=h.len
 have hn:=h.max
 clear h
 go_enter Tryz.func178,Tryz.ntmps178
 go_wp2
 go_loopw [9] (fun i wr=>∃ k:Nat,k≤n∧i=.int .i64 k∧Hid (∀ j,j<k→mapP (ps.getD j (0,0)))∧Below w.heap.size w wr) (fun i _=>n - (intOf i).toNat)
 case atStart=>exact ⟨0,Nat.zero_le _,rfl,fun k hk=>absurd hk (Nat.not_lt_zero _),Below.refl _ _⟩
 case round =>
  obtain ⟨k,hk,rfl,HE,hbr⟩:=hrel
  have hws:=hbr.size
  by_cases hlt:k<n
  ·obtain ⟨b,off,rfl,hlb,x0,x1⟩:=(H0.out.kept hbr).get k hlt
   obtain ⟨p,hp⟩:∃ p,p=ps.getD k (0,0):=⟨_,rfl⟩
   rw [← hp] at x0 x1
   have HP:Hid (p=ps.getD k (0,0)):=hp
   have hlti:(k:Int)<(n:Int):=by omega
   have hbz:Below wr.heap.size wr (wr.alloc (.cells #[.int .i64 p.1,.int .i64 p.2] 115)):=(Below.refl _ _).alloc (Nat.le_refl _) _
   clear hp
   go_wp2_with fail
   refine (mapOk_any p _).mono ?_
   rintro e w2 ⟨rfl,hb2⟩
   have B2:Below w.heap.size w w2:=keepP hbr (keepP hbz hb2)
   by_cases h0:mapP p
   ·rw [decide_eq_true h0]
    have HN:Hid (∀ j,j<k+1→mapP (ps.getD j (0,0))):=fun j hj=>by
     by_cases e:j<k
     ·exact HE.out j e
     ·obtain rfl:j=k:=by omega
      rw [← HP.out]; exact h0
    clear h0 HE hb2 hbz hbr x0 x1
    go_wp2
    go_roundw
    case rel=>exact ⟨k+1,by omega,by go_num,HN,B2⟩
    case measure=>simp [intOf]; omega
   ·rw [decide_eq_false h0]
    have HN:Hid (¬ mapsP ps):=fun e=>h0 (by rw [HP.out]; exact e k (by rw [HL.out]; exact hlt))
    clear h0 HE hb2 hbz hbr x0 x1
    go_wp2
    go_ret
    exact saysP_f HN.out B2
  ·obtain rfl:k=n:=by omega
   go_wp2
   go_ret
   exact saysP_t (fun j hj=>HE.out j (by rw [HL.out] at hj; exact hj)) hbr
theorem mapsOk_any (a:Option Addr)(n c:Nat)(ps:List (Int × Int))(w:World)(h:Pms w a n ps) :
  Calls Tryz.prog 147 #[.slice a n c] w (SaysP (ps.length≤6∧mapsP ps) w):=by
 have H0:Hid (Pms w a n ps):=h
 have HL:Hid (ps.length=n):=h.len
 have hn:=h.max
 clear h
 by_cases h6:n≤6
 ·have h6':(n:Int)≤6:=by omega
  go_enter Tryz.func147,Tryz.ntmps147
  go_wp2_with fail
  refine (everyMap_any a n c ps _ H0.out).mono ?_
  rintro e w1 ⟨b,rfl,HB,hb1⟩
  have FIN:Hid (b=true↔ps.length≤6∧mapsP ps):=⟨fun e=>⟨by rw [HL.out]; exact h6,HB.out.1 e⟩,fun e=>HB.out.2 e.2⟩
  go_wp2
  go_ret
  exact ⟨_,rfl,FIN,hb1⟩
 ·have h6':¬ (n:Int)≤6:=by omega
  have HN:Hid (¬ (ps.length≤6∧mapsP ps)):=fun e=>h6 (by rw [← HL.out]; exact e.1)
  go_enter Tryz.func147,Tryz.ntmps147
  go_wp2
  go_ret
  exact saysP_f HN.out (Below.refl _ _)
end Go.Proofs.YtmdfbnlgfhjnoaaGreatDoor
