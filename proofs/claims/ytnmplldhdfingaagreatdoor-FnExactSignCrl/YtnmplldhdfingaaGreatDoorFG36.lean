import Derived.Test.YtnmplldhdfingaaGreatDoorFG35
set_option maxRecDepth 10000
set_option maxHeartbeats 8000000
set_option linter.unusedVariables false
namespace Go.Proofs.YtnmplldhdfingaaGreatDoor
open Go.RowKit Go.Sort
def CrsT (B:Nat)(w:World)(a1:Option Addr)(n1:Nat)(a2:Option Addr)(n2:Nat)(a3:Option Addr)(n3:Nat)(x:CP):Prop:=∀ W' lo hi,Touch lo hi w W'→hi≤B→Crs W' a1 n1 a2 n2 a3 n3 x
theorem CrsT.now {B:Nat}{w:World}{a1:Option Addr}{n1:Nat}{a2:Option Addr}{n2:Nat}{a3:Option Addr}{n3:Nat}{x:CP}(h:CrsT B w a1 n1 a2 n2 a3 n3 x):Crs w a1 n1 a2 n2 a3 n3 x:=h w 0 0 ⟨rfl,rfl,rfl,Nat.le_refl _,fun _ _ _=>rfl⟩ (Nat.zero_le _)
theorem CrsT.on {B B' lo hi:Nat}{w w':World}{a1:Option Addr}{n1:Nat}{a2:Option Addr}{n2:Nat}{a3:Option Addr}{n3:Nat}{x:CP}(h:CrsT B w a1 n1 a2 n2 a3 n3 x)(t:Touch lo hi w w')(h1:hi≤B)(h2:B'≤B):CrsT B' w' a1 n1 a2 n2 a3 n3 x :=
 fun W' lo2 hi2 t2 h3=>h W' 0 B ((t.mono (Nat.zero_le _) h1).trans (t2.mono (Nat.zero_le _) (by omega))) (Nat.le_refl _)
theorem opw_load1C {P:Program}{Q:Exit→Act→World→Prop}{o:Oper}{a:Act}{w:World}{K:Act→World→Prop}(t:TypeId)(x:Nat)(ho:o.op=.load t (.tmp x))(p:Value)(hx:aT a x=p)(v:Value)(hr:(Instr.loadAt t p).run P w=.ok v w)(h:K (a.put o.dst v) w):o.wp P a w K Q:=by
 refine opw_value v ?_ h
 have hx':a.eval (.tmp x)=p:=hx
 unfold execOp
 simp [ho,hx',hr]
theorem opw_storeC {P:Program}{Q:Exit→Act→World→Prop}{o:Oper}{a:Act}{w:World}{K:Act→World→Prop}(ty:TypeId)(x y:Nat)(ho:o.op=.store ty (.tmp x) (.tmp y))(ad:Addr)(v:Value)(hx:aT a x=.pointer (some ad))(hy:aT a y=v)(w':World)
  (hr:(Instr.storeAt ty (.pointer (some ad)) v).run P w=.ok () w') (h:K (a.put o.dst undef) w'):o.wp P a w K Q:=by
 have hx':a.eval (.tmp x)=.pointer (some ad):=hx
 have hy':a.eval (.tmp y)=v:=hy
 unfold Oper.wp execOp
 simp only [ho,hx',hy',Sem.run_bind,hr,Result.andThen_ok,Sem.run_pure]
 exact h
theorem unC {b:Bool}(h:b=true→False):b=false:=by
 cases b with
 | false=>rfl
 | true=>exact (h rfl).elim
theorem touch_setC {p q:Nat}(w:World)(g j:Nat)(u:Value)(h1:p≤g)(h2:g<q):Touch p q w (w.setCell ⟨g,j,none⟩ u) :=
 ⟨rfl,rfl,rfl,by simp,fun k _ hk=>by simp only [World.setCell]; rw [Array.getElem?_modify]; simp [show ¬ g=k by omega]⟩
theorem owns_touchC {w w':World}{B e s n lo hi:Nat}{v:Value}{xs:List Value}(h:w.ownsRow B e s v n xs)(ht:Touch lo hi w w')(hd:hi≤B):w'.ownsRow B e s v n xs:=by
 refine ⟨h.1,?_⟩
 rcases h.2 with h0 | ⟨g,cap,cur,hv,hb,hg,r⟩
 ·exact .inl h0
 ·exact .inr ⟨g,cap,cur,hv,hb,(ht.block g (Array.getElem?_eq_some_iff.1 hg).1 (.inr (by omega))).trans hg,r⟩
theorem owns_monoC {w:World}{B B' e s n:Nat}{v:Value}{xs:List Value}(h:w.ownsRow B e s v n xs)(hB:B'≤B):w.ownsRow B' e s v n xs:=by
 refine ⟨h.1,?_⟩
 rcases h.2 with h0 | ⟨g,cap,cur,hv,hb,r⟩
 ·exact .inl h0
 ·exact .inr ⟨g,cap,cur,hv,by omega,r⟩
theorem EachQ.touchC {B:Nat}{w w':World}{a:Option Addr}{k c:Nat}{xs:List GP}{sl:Nat→Sl}(h:EachQ B w a k c xs sl){lo hi:Nat}(ht:Touch lo hi w w')(hd:hi≤B):EachQ B w' a k c xs sl:=⟨owns_touchC h.row ht hd,fun j hj=>owns_touchC (h.each j hj) ht hd,h.apart⟩
theorem EachQ.monoC {B B':Nat}{w:World}{a:Option Addr}{k c:Nat}{xs:List GP}{sl:Nat→Sl}(h:EachQ B w a k c xs sl)(hB:B'≤B):EachQ B' w a k c xs sl:=⟨owns_monoC h.row hB,fun j hj=>owns_monoC (h.each j hj) hB,h.apart⟩
def NmF (R n:Nat)(ps:List PT)(v:Value)(w:World):Prop:=∃ p d,v=.agg #[.slice p n d]∧w.ownsRow R 132 2 (.slice p n d) n (flPt ps)
def EnF (R n:Nat)(xs:List GP)(v:Value)(w:World):Prop:=∃ p d sl,v=.slice p n d∧EachQ R w p n d xs sl∧∀ j,j<n→(sl j).2.1=(xs.getD j default).parts.length
def SgF (R n:Nat)(bs:List Int)(v:Value)(w:World):Prop:=∃ p d,v=.slice p n d∧Own R w p n d bs
def TwF (R n1 n2:Nat)(ps:List PT)(xs:List GP)(v1 v2:Value)(w:World):Prop:=∃ p1 d1 p2 d2 sl,v1=.agg #[.slice p1 n1 d1]∧w.ownsRow R 132 2 (.slice p1 n1 d1) n1 (flPt ps)∧v2=.slice p2 n2 d2∧EachQ R w p2 n2 d2 xs sl∧(∀ j,j<n2→(sl j).2.1=(xs.getD j default).parts.length)∧∀ j,j<n2→∀ g,(sl j).1=some ⟨g,0,none⟩→p1≠some ⟨g,0,none⟩
theorem NmF.kept {R n:Nat}{ps:List PT}{v:Value}{w w':World}(h:NmF R n ps v w)(hb:Below w.heap.size w w'):NmF R n ps v w':=by
 obtain ⟨p,d,e,h1⟩:=h
 exact ⟨p,d,e,ownsRow_below h1 hb⟩
theorem EnF.kept {R n:Nat}{xs:List GP}{v:Value}{w w':World}(h:EnF R n xs v w)(hb:Below w.heap.size w w'):EnF R n xs v w':=by
 obtain ⟨p,d,sl,e,h1,h2⟩:=h
 exact ⟨p,d,sl,e,h1.below hb,h2⟩
theorem SgF.kept {R n:Nat}{bs:List Int}{v:Value}{w w':World}(h:SgF R n bs v w)(hb:Below w.heap.size w w'):SgF R n bs v w':=by
 obtain ⟨p,d,e,h1⟩:=h
 exact ⟨p,d,e,h1.kept hb⟩
theorem TwF.kept {R n1 n2:Nat}{ps:List PT}{xs:List GP}{v1 v2:Value}{w w':World}(h:TwF R n1 n2 ps xs v1 v2 w)(hb:Below w.heap.size w w'):TwF R n1 n2 ps xs v1 v2 w':=by
 obtain ⟨p1,d1,p2,d2,sl,e1,h1,e2,h2,h3,h4⟩:=h
 exact ⟨p1,d1,p2,d2,sl,e1,ownsRow_below h1 hb,e2,h2.below hb,h3,h4⟩
theorem NmF.touch {R n G:Nat}{ps:List PT}{v:Value}{w w':World}(h:NmF R n ps v w)(hG:G<R)(ht:Touch G (G+1) w w'):NmF R n ps v w':=by
 obtain ⟨p,d,e,h1⟩:=h
 exact ⟨p,d,e,owns_touchC h1 ht (by omega)⟩
theorem EnF.touch {R n G:Nat}{xs:List GP}{v:Value}{w w':World}(h:EnF R n xs v w)(hG:G<R)(ht:Touch G (G+1) w w'):EnF R n xs v w':=by
 obtain ⟨p,d,sl,e,h1,h2⟩:=h
 exact ⟨p,d,sl,e,h1.touchC ht (by omega),h2⟩
theorem SgF.touch {R n G:Nat}{bs:List Int}{v:Value}{w w':World}(h:SgF R n bs v w)(hG:G<R)(ht:Touch G (G+1) w w'):SgF R n bs v w':=by
 obtain ⟨p,d,e,h1⟩:=h
 exact ⟨p,d,e,owns_touchC h1.row ht (by omega),h1.byte⟩
theorem TwF.touch {R n1 n2 G:Nat}{ps:List PT}{xs:List GP}{v1 v2:Value}{w w':World}(h:TwF R n1 n2 ps xs v1 v2 w)(hG:G<R)(ht:Touch G (G+1) w w'):TwF R n1 n2 ps xs v1 v2 w':=by
 obtain ⟨p1,d1,p2,d2,sl,e1,h1,e2,h2,h3,h4⟩:=h
 exact ⟨p1,d1,p2,d2,sl,e1,owns_touchC h1 ht (by omega),e2,h2.touchC ht (by omega),h3,h4⟩
def ccS (x:CP)(a1:Option Addr)(n1 c1:Nat)(a2:Option Addr)(n2 c2:Nat)(a3:Option Addr)(n3 c3:Nat)(G R:Nat):RSpec where
 m:=15
 n:=15
 slots:=[3,4,5,6,7,8,9,10,11,12,100010,13,100012,14,100014]
 kills:=[[],[],[],[],[],[],[],[],[],[],[],[],[],[],[]]
 pres:=[[],[],[1],[],[],[4],[],[],[7],[],[],[],[],[],[]]
 fact:=fun k v w=>match k with
  | 0=>v=.pointer (some ⟨G,0,none⟩)
  | 1=>v=.agg #[.slice a1 n1 c1]
  | 2=>NmF R n1 x.parts v w
  | 3=>v=.pointer (some ⟨G,7,none⟩)
  | 4=>v=.slice a2 n2 c2
  | 5=>EnF R n2 x.ents v w
  | 6=>v=.pointer (some ⟨G,8,none⟩)
  | 7=>v=.slice a3 n3 c3
  | 8=>SgF R n3 x.sig v w
  | 9=>v=.pointer (some ⟨G,0,none⟩)
  | 10=>True
  | 11=>v=.pointer (some ⟨G,7,none⟩)
  | 12=>True
  | 13=>v=.pointer (some ⟨G,8,none⟩)
  | _=>True
theorem ccS_stb (x:CP)(a1:Option Addr)(n1 c1:Nat)(a2:Option Addr)(n2 c2:Nat)(a3:Option Addr)(n3 c3:Nat)(G R:Nat)(k:Nat)(hk:k<15):StB ((ccS x a1 n1 c1 a2 n2 c2 a3 n3 c3 G R).fact k):=by
 match k,hk with
 | 0,_=>exact fun _ _ _ h _=>h
 | 1,_=>exact fun _ _ _ h _=>h
 | 2,_=>exact fun _ _ _ h hb=>h.kept hb
 | 3,_=>exact fun _ _ _ h _=>h
 | 4,_=>exact fun _ _ _ h _=>h
 | 5,_=>exact fun _ _ _ h hb=>h.kept hb
 | 6,_=>exact fun _ _ _ h _=>h
 | 7,_=>exact fun _ _ _ h _=>h
 | 8,_=>exact fun _ _ _ h hb=>h.kept hb
 | 9,_=>exact fun _ _ _ h _=>h
 | 10,_=>exact fun _ _ _ h _=>h
 | 11,_=>exact fun _ _ _ h _=>h
 | 12,_=>exact fun _ _ _ h _=>h
 | 13,_=>exact fun _ _ _ h _=>h
 | 14,_=>exact fun _ _ _ h _=>h
 | k+15,hk=>omega
theorem ccS_st (x:CP)(a1:Option Addr)(n1 c1:Nat)(a2:Option Addr)(n2 c2:Nat)(a3:Option Addr)(n3 c3:Nat)(G R:Nat)(hG:G<R){W W2:World}(ht:Touch G (G+1) W W2)(k:Nat)(hk:k<15)(v:Value)(hf:(ccS x a1 n1 c1 a2 n2 c2 a3 n3 c3 G R).fact k v W):(ccS x a1 n1 c1 a2 n2 c2 a3 n3 c3 G R).fact k v W2:=by
 match k,hk,hf with
 | 0,_,h=>exact h
 | 1,_,h=>exact h
 | 2,_,h=>exact h.touch hG ht
 | 3,_,h=>exact h
 | 4,_,h=>exact h
 | 5,_,h=>exact h.touch hG ht
 | 6,_,h=>exact h
 | 7,_,h=>exact h
 | 8,_,h=>exact h.touch hG ht
 | 9,_,h=>exact h
 | 10,_,h=>exact h
 | 11,_,h=>exact h
 | 12,_,h=>exact h
 | 13,_,h=>exact h
 | 14,_,h=>exact h
 | k+15,hk,_=>omega
structure CcJ (x:CP)(a1:Option Addr)(n1 c1:Nat)(a2:Option Addr)(n2 c2:Nat)(a3:Option Addr)(n3 c3:Nat)(G R:Nat)(l:Nat→Bool)(a:Act)(w:World):Prop where
 two:l 2=true→l 5=true→TwF R n1 n2 x.parts x.ents (aT a 5) (aT a 8) w
 box:∃ u0 u7 u8,w.heap[G]? = some (.cells #[u0,.int .i64 x.num,.int .i64 x.base,.int .i64 x.tm,.int .i64 x.next,.int .i64 x.scope,.bool x.ind,u7,u8] 38 (0,0))∧(l 10=false→u0=.slice a1 n1 c1)∧(l 10=true→aT a 5=.agg #[u0])∧(l 12=false→u7=.slice a2 n2 c2)∧(l 12=true→aT a 8=u7)∧(l 14=false→u8=.slice a3 n3 c3)∧(l 14=true→aT a 11=u8)
 res:w.heap[G+1]? = some (.cells #[.slice none 0 0,.int .i64 0,.int .i64 0,.int .i64 0,.int .i64 0,.int .i64 0,.bool false,.slice none 0 0,.slice none 0 0] 38 (0,0))
 e10:l 10=true→l 2=true
 e12:l 12=true→l 5=true
 e14:l 14=true→l 8=true
theorem CcJ.put {x:CP}{a1:Option Addr}{n1 c1:Nat}{a2:Option Addr}{n2 c2:Nat}{a3:Option Addr}{n3 c3:Nat}{G R:Nat}{l:Nat→Bool}{a:Act}{w w':World}(h:CcJ x a1 n1 c1 a2 n2 c2 a3 n3 c3 G R l a w)(k t:Nat)(v:Value)(hk:k≠2∧k≠5∧k≠8∧k≠10∧k≠12∧k≠14)(ht:t≠5∧t≠8∧t≠11)(hb:Below w.heap.size w w'):CcJ x a1 n1 c1 a2 n2 c2 a3 n3 c3 G R (upd l k) (a.put (some t) v) w':=by
 obtain ⟨k2,k5,k8,k10,k12,k14⟩:=hk
 obtain ⟨t5,t8,t11⟩:=ht
 refine ⟨fun h2 h5=>?_,?_,below_kept h.res hb,fun e=>?_,fun e=>?_,fun e=>?_⟩
 ·rw [upd_ne k2.symm] at h2
  rw [upd_ne k5.symm] at h5
  rw [aT_put_ne t5,aT_put_ne t8]
  exact (h.two h2 h5).kept hb
 ·obtain ⟨u0,u7,u8,hx,i1,i2,i3,i4,i5,i6⟩:=h.box
  refine ⟨u0,u7,u8,below_kept hx hb,?_,?_,?_,?_,?_,?_⟩
  all_goals rw [upd_ne (by first | exact k10.symm | exact k12.symm | exact k14.symm)]
  ·exact i1
  ·rw [aT_put_ne t5]; exact i2
  ·exact i3
  ·rw [aT_put_ne t8]; exact i4
  ·exact i5
  ·rw [aT_put_ne t11]; exact i6
 ·rw [upd_ne k10.symm] at e
  exact upd_mono (h.e10 e)
 ·rw [upd_ne k12.symm] at e
  exact upd_mono (h.e12 e)
 ·rw [upd_ne k14.symm] at e
  exact upd_mono (h.e14 e)
theorem CcJ.call2 {x:CP}{a1:Option Addr}{n1 c1:Nat}{a2:Option Addr}{n2 c2:Nat}{a3:Option Addr}{n3 c3:Nat}{G R:Nat}{l:Nat→Bool}{a:Act}{w w':World}(h:CcJ x a1 n1 c1 a2 n2 c2 a3 n3 c3 G R l a w)(v:Value)(hun:l 2=false)(hb:Below w.heap.size w w')(h2:upd l 2 2=true→upd l 2 5=true→TwF R n1 n2 x.parts x.ents (aT (a.put (some 5) v) 5) (aT (a.put (some 5) v) 8) w'):CcJ x a1 n1 c1 a2 n2 c2 a3 n3 c3 G R (upd l 2) (a.put (some 5) v) w':=by
 have hs:l 10=false:=unC (fun e=>by have h1:=h.e10 e; rw [hun] at h1; cases h1)
 refine ⟨h2,?_,below_kept h.res hb,fun e=>?_,fun e=>?_,fun e=>?_⟩
 ·obtain ⟨u0,u7,u8,hx,i1,i2,i3,i4,i5,i6⟩:=h.box
  refine ⟨u0,u7,u8,below_kept hx hb,?_,?_,?_,?_,?_,?_⟩
  all_goals rw [upd_ne (by decide)]
  ·exact i1
  ·intro e; rw [hs] at e; cases e
  ·exact i3
  ·rw [aT_put_ne (by decide)]; exact i4
  ·exact i5
  ·rw [aT_put_ne (by decide)]; exact i6
 ·exact upd_same _ _
 ·rw [upd_ne (by decide)] at e
  exact upd_mono (h.e12 e)
 ·rw [upd_ne (by decide)] at e
  exact upd_mono (h.e14 e)
theorem CcJ.call5 {x:CP}{a1:Option Addr}{n1 c1:Nat}{a2:Option Addr}{n2 c2:Nat}{a3:Option Addr}{n3 c3:Nat}{G R:Nat}{l:Nat→Bool}{a:Act}{w w':World}(h:CcJ x a1 n1 c1 a2 n2 c2 a3 n3 c3 G R l a w)(v:Value)(hun:l 5=false)(hb:Below w.heap.size w w')(h2:upd l 5 2=true→upd l 5 5=true→TwF R n1 n2 x.parts x.ents (aT (a.put (some 8) v) 5) (aT (a.put (some 8) v) 8) w'):CcJ x a1 n1 c1 a2 n2 c2 a3 n3 c3 G R (upd l 5) (a.put (some 8) v) w':=by
 have hs:l 12=false:=unC (fun e=>by have h1:=h.e12 e; rw [hun] at h1; cases h1)
 refine ⟨h2,?_,below_kept h.res hb,fun e=>?_,fun e=>?_,fun e=>?_⟩
 ·obtain ⟨u0,u7,u8,hx,i1,i2,i3,i4,i5,i6⟩:=h.box
  refine ⟨u0,u7,u8,below_kept hx hb,?_,?_,?_,?_,?_,?_⟩
  all_goals rw [upd_ne (by decide)]
  ·exact i1
  ·rw [aT_put_ne (by decide)]; exact i2
  ·exact i3
  ·intro e; rw [hs] at e; cases e
  ·exact i5
  ·rw [aT_put_ne (by decide)]; exact i6
 ·rw [upd_ne (by decide)] at e
  exact upd_mono (h.e10 e)
 ·exact upd_same _ _
 ·rw [upd_ne (by decide)] at e
  exact upd_mono (h.e14 e)
theorem CcJ.call8 {x:CP}{a1:Option Addr}{n1 c1:Nat}{a2:Option Addr}{n2 c2:Nat}{a3:Option Addr}{n3 c3:Nat}{G R:Nat}{l:Nat→Bool}{a:Act}{w w':World}(h:CcJ x a1 n1 c1 a2 n2 c2 a3 n3 c3 G R l a w)(v:Value)(hun:l 8=false)(hb:Below w.heap.size w w'):CcJ x a1 n1 c1 a2 n2 c2 a3 n3 c3 G R (upd l 8) (a.put (some 11) v) w':=by
 have hs:l 14=false:=unC (fun e=>by have h1:=h.e14 e; rw [hun] at h1; cases h1)
 refine ⟨fun h2 h5=>?_,?_,below_kept h.res hb,fun e=>?_,fun e=>?_,fun e=>?_⟩
 ·rw [upd_ne (by decide)] at h2 h5
  rw [aT_put_ne (by decide),aT_put_ne (by decide)]
  exact (h.two h2 h5).kept hb
 ·obtain ⟨u0,u7,u8,hx,i1,i2,i3,i4,i5,i6⟩:=h.box
  refine ⟨u0,u7,u8,below_kept hx hb,?_,?_,?_,?_,?_,?_⟩
  all_goals rw [upd_ne (by decide)]
  ·exact i1
  ·rw [aT_put_ne (by decide)]; exact i2
  ·exact i3
  ·rw [aT_put_ne (by decide)]; exact i4
  ·exact i5
  ·intro e; rw [hs] at e; cases e
 ·rw [upd_ne (by decide)] at e
  exact upd_mono (h.e10 e)
 ·rw [upd_ne (by decide)] at e
  exact upd_mono (h.e12 e)
 ·exact upd_same _ _
theorem CcJ.store10 {x:CP}{a1:Option Addr}{n1 c1:Nat}{a2:Option Addr}{n2 c2:Nat}{a3:Option Addr}{n3 c3:Nat}{G R:Nat}{l:Nat→Bool}{a:Act}{w w':World}(h:CcJ x a1 n1 c1 a2 n2 c2 a3 n3 c3 G R l a w)(hG:G<R)(p:Value)(hv:aT a 5=.agg #[p])(hl:l 2=true)(ht:Touch G (G+1) w w')
  (hw:∀ u0 u7 u8,w.heap[G]? = some (.cells #[u0,.int .i64 x.num,.int .i64 x.base,.int .i64 x.tm,.int .i64 x.next,.int .i64 x.scope,.bool x.ind,u7,u8] 38 (0,0))→w'.heap[G]? = some (.cells #[p,.int .i64 x.num,.int .i64 x.base,.int .i64 x.tm,.int .i64 x.next,.int .i64 x.scope,.bool x.ind,u7,u8] 38 (0,0))):CcJ x a1 n1 c1 a2 n2 c2 a3 n3 c3 G R (upd l 10) (a.put none undef) w':=by
 obtain ⟨u0,u7,u8,hx,i1,i2,i3,i4,i5,i6⟩:=h.box
 refine ⟨fun h2 h5=>?_,⟨p,u7,u8,hw u0 u7 u8 hx,?_,?_,?_,?_,?_,?_⟩,(ht.block _ (Array.getElem?_eq_some_iff.1 h.res).1 (by omega)).trans h.res,fun e=>?_,fun e=>?_,fun e=>?_⟩
 ·rw [upd_ne (by decide)] at h2 h5
  exact (h.two h2 h5).touch hG ht
 ·intro e; rw [upd_same] at e; cases e
 ·intro _; exact hv
 ·rw [upd_ne (by decide)]; exact i3
 ·rw [upd_ne (by decide)]; exact i4
 ·rw [upd_ne (by decide)]; exact i5
 ·rw [upd_ne (by decide)]; exact i6
 ·exact upd_mono hl
 ·rw [upd_ne (by decide)] at e
  exact upd_mono (h.e12 e)
 ·rw [upd_ne (by decide)] at e
  exact upd_mono (h.e14 e)
theorem CcJ.store12 {x:CP}{a1:Option Addr}{n1 c1:Nat}{a2:Option Addr}{n2 c2:Nat}{a3:Option Addr}{n3 c3:Nat}{G R:Nat}{l:Nat→Bool}{a:Act}{w w':World}(h:CcJ x a1 n1 c1 a2 n2 c2 a3 n3 c3 G R l a w)(hG:G<R)(p:Value)(hv:aT a 8=p)(hl:l 5=true)(ht:Touch G (G+1) w w')
  (hw:∀ u0 u7 u8,w.heap[G]? = some (.cells #[u0,.int .i64 x.num,.int .i64 x.base,.int .i64 x.tm,.int .i64 x.next,.int .i64 x.scope,.bool x.ind,u7,u8] 38 (0,0))→w'.heap[G]? = some (.cells #[u0,.int .i64 x.num,.int .i64 x.base,.int .i64 x.tm,.int .i64 x.next,.int .i64 x.scope,.bool x.ind,p,u8] 38 (0,0))):CcJ x a1 n1 c1 a2 n2 c2 a3 n3 c3 G R (upd l 12) (a.put none undef) w':=by
 obtain ⟨u0,u7,u8,hx,i1,i2,i3,i4,i5,i6⟩:=h.box
 refine ⟨fun h2 h5=>?_,⟨u0,p,u8,hw u0 u7 u8 hx,?_,?_,?_,?_,?_,?_⟩,(ht.block _ (Array.getElem?_eq_some_iff.1 h.res).1 (by omega)).trans h.res,fun e=>?_,fun e=>?_,fun e=>?_⟩
 ·rw [upd_ne (by decide)] at h2 h5
  exact (h.two h2 h5).touch hG ht
 ·rw [upd_ne (by decide)]; exact i1
 ·rw [upd_ne (by decide)]; exact i2
 ·intro e; rw [upd_same] at e; cases e
 ·intro _; exact hv
 ·rw [upd_ne (by decide)]; exact i5
 ·rw [upd_ne (by decide)]; exact i6
 ·rw [upd_ne (by decide)] at e
  exact upd_mono (h.e10 e)
 ·exact upd_mono hl
 ·rw [upd_ne (by decide)] at e
  exact upd_mono (h.e14 e)
theorem CcJ.store14 {x:CP}{a1:Option Addr}{n1 c1:Nat}{a2:Option Addr}{n2 c2:Nat}{a3:Option Addr}{n3 c3:Nat}{G R:Nat}{l:Nat→Bool}{a:Act}{w w':World}(h:CcJ x a1 n1 c1 a2 n2 c2 a3 n3 c3 G R l a w)(hG:G<R)(p:Value)(hv:aT a 11=p)(hl:l 8=true)(ht:Touch G (G+1) w w')
  (hw:∀ u0 u7 u8,w.heap[G]? = some (.cells #[u0,.int .i64 x.num,.int .i64 x.base,.int .i64 x.tm,.int .i64 x.next,.int .i64 x.scope,.bool x.ind,u7,u8] 38 (0,0))→w'.heap[G]? = some (.cells #[u0,.int .i64 x.num,.int .i64 x.base,.int .i64 x.tm,.int .i64 x.next,.int .i64 x.scope,.bool x.ind,u7,p] 38 (0,0))):CcJ x a1 n1 c1 a2 n2 c2 a3 n3 c3 G R (upd l 14) (a.put none undef) w':=by
 obtain ⟨u0,u7,u8,hx,i1,i2,i3,i4,i5,i6⟩:=h.box
 refine ⟨fun h2 h5=>?_,⟨u0,u7,p,hw u0 u7 u8 hx,?_,?_,?_,?_,?_,?_⟩,(ht.block _ (Array.getElem?_eq_some_iff.1 h.res).1 (by omega)).trans h.res,fun e=>?_,fun e=>?_,fun e=>?_⟩
 ·rw [upd_ne (by decide)] at h2 h5
  exact (h.two h2 h5).touch hG ht
 ·rw [upd_ne (by decide)]; exact i1
 ·rw [upd_ne (by decide)]; exact i2
 ·rw [upd_ne (by decide)]; exact i3
 ·rw [upd_ne (by decide)]; exact i4
 ·intro e; rw [upd_same] at e; cases e
 ·intro _; exact hv
 ·rw [upd_ne (by decide)] at e
  exact upd_mono (h.e10 e)
 ·rw [upd_ne (by decide)] at e
  exact upd_mono (h.e12 e)
 ·exact upd_mono hl
theorem CcJ.done {x:CP}{a1:Option Addr}{n1 c1:Nat}{a2:Option Addr}{n2 c2:Nat}{a3:Option Addr}{n3 c3:Nat}{G R:Nat}{l:Nat→Bool}{a:Act}{w:World}(h:CcJ x a1 n1 c1 a2 n2 c2 a3 n3 c3 G R l a w)(h8:SgF R n3 x.sig (aT a 11) w)(hl:∀ k,l k=true):∃ p1 d1 p2 d2 p3 d3 sl,w.heap[G]? = some (.cells #[.slice p1 n1 d1,.int .i64 x.num,.int .i64 x.base,.int .i64 x.tm,.int .i64 x.next,.int .i64 x.scope,.bool x.ind,.slice p2 n2 d2,.slice p3 n3 d3] 38 (0,0))∧w.ownsRow R 132 2 (.slice p1 n1 d1) n1 (flPt x.parts)∧EachQ R w p2 n2 d2 x.ents sl∧(∀ j,j<n2→(sl j).2.1=(x.ents.getD j default).parts.length)∧(∀ j,j<n2→∀ g,(sl j).1=some ⟨g,0,none⟩→p1≠some ⟨g,0,none⟩)∧Own R w p3 n3 d3 x.sig:=by
 obtain ⟨p1,d1,p2,d2,sl,e1,q1,e2,q2,q3,q4⟩:=h.two (hl 2) (hl 5)
 obtain ⟨p3,d3,e3,q5⟩:=h8
 obtain ⟨u0,u7,u8,hx,i1,i2,i3,i4,i5,i6⟩:=h.box
 have z0:=i2 (hl 10)
 have z7:=i4 (hl 12)
 have z8:=i6 (hl 14)
 rw [e1] at z0
 rw [e2] at z7
 rw [e3] at z8
 subst z7
 subst z8
 have z0':u0=.slice p1 n1 d1:=by
  simp only [Value.agg.injEq] at z0
  have:=congrArg (fun (v:Array Value)=>v.getD 0 undef) z0
  simpa using this.symm
 subst z0'
 exact ⟨p1,d1,p2,d2,p3,d3,sl,hx,q1,q2,q3,q4,q5⟩
theorem cloneCrl_any (a1:Option Addr)(n1 c1:Nat)(a2:Option Addr)(n2 c2:Nat)(a3:Option Addr)(n3 c3:Nat)(x:CP)(w:World)(h:Crs w a1 n1 a2 n2 a3 n3 x)(hz:CpOk n1 n2 n3 x)(hn1:a1=none→c1=0)(hn3:a3=none→c3=0)
  (hc0:∀ k,k<n2→∀ b off an nn cn,a2=some ⟨b,off,none⟩→w.cell? ⟨b,off+k * 4,none⟩=some (.slice an nn cn)→(an=none→cn=0)∧nn≤1048576) :
  Calls Tryz.prog 26 #[crv a1 n1 c1 a2 n2 c2 a3 n3 c3 x] w fun e w'=>∃ p1 d1 p2 d2 p3 d3 sl,e=.returned (crv p1 n1 d1 p2 n2 d2 p3 n3 d3 x)∧CrsT w.heap.size w' p1 n1 p2 n2 p3 n3 x∧OwnC w.heap.size w' p1 n1 d1 p2 n2 d2 p3 n3 d3 (flPt x.parts) sl (fun j=>flPt (x.ents.getD j default).parts) (flG x.ents sl n2) x.sig∧Below w.heap.size w w':=by
 obtain ⟨w1,hw1⟩:∃ w1,w1=(w.alloc (.cells #[.slice a1 n1 c1,.int .i64 x.num,.int .i64 x.base,.int .i64 x.tm,.int .i64 x.next,.int .i64 x.scope,.bool x.ind,.slice a2 n2 c2,.slice a3 n3 c3] 38)).alloc (.cells #[.slice none 0 0,.int .i64 0,.int .i64 0,.int .i64 0,.int .i64 0,.int .i64 0,.bool false,.slice none 0 0,.slice none 0 0] 38):=⟨_,rfl⟩
 have hbb:Below w.heap.size w w1:=by rw [hw1]; exact ((Below.refl _ _).alloc (Nat.le_refl _) _).alloc (by simp) _
 have HB1:Hid (w1.heap[w.heap.size]? = some (.cells #[.slice a1 n1 c1,.int .i64 x.num,.int .i64 x.base,.int .i64 x.tm,.int .i64 x.next,.int .i64 x.scope,.bool x.ind,.slice a2 n2 c2,.slice a3 n3 c3] 38 (0,0))∧w1.heap[w.heap.size+1]? = some (.cells #[.slice none 0 0,.int .i64 0,.int .i64 0,.int .i64 0,.int .i64 0,.int .i64 0,.bool false,.slice none 0 0,.slice none 0 0] 38 (0,0))):=by show _∧_; rw [hw1]; exact two_blocks w _ _
 have hs1:w1.heap.size=w.heap.size+2:=by rw [hw1]; simp
 have HZ:Hid (CpOk n1 n2 n3 x):=hz
 have HRK:Hid (∀ W,Below w.heap.size w1 W→Crs W a1 n1 a2 n2 a3 n3 x∧∀ k,k<n2→∀ b off an nn cn,a2=some ⟨b,off,none⟩→W.cell? ⟨b,off+k * 4,none⟩=some (.slice an nn cn)→(an=none→cn=0)∧nn≤1048576):=fun W hW=>by
  have hb2:=hbb.trans hW
  refine ⟨h.kept hb2,fun k hk b off an nn cn e hc=>hc0 k hk b off an nn cn e ?_⟩
  obtain ⟨b',off',_,_,_,e',hlt,_⟩:=h.en.get k hk
  rw [e] at e'
  simp only [Option.some.injEq,Addr.mk.injEq] at e'
  obtain ⟨rfl,_,_⟩:=e'
  rw [← hb2.cell (p:=⟨b,off+k * 4,none⟩) hlt]
  exact hc
 have HL:Hid (x.parts.length=n1∧x.ents.length=n2):=⟨h.nm.len,h.en.len⟩
 have HW:Hid (_=_):=hw1
 clear hw1 h hc0 hz
 have HBB:w.heap.size≤w1.heap.size:=by omega
 have hGR:w.heap.size<w1.heap.size:=by omega
 unfold crv
 go_enter Tryz.func26,Tryz.ntmps26
 go_upto_region 1 with fail
 rw [← HW.out]
 clear HW
 refine wp_region_gj (fun a0 l a w2=>RI (ccS x a1 n1 c1 a2 n2 c2 a3 n3 c3 w.heap.size w1.heap.size) [3,4,5,6,7,8,9,10,11,12,13,14] w.heap.size w1 a0 l a w2∧CcJ x a1 n1 c1 a2 n2 c2 a3 n3 c3 w.heap.size w1.heap.size l a w2∧w1.heap.size≤w2.heap.size) (fun a0=>a0.tmps.size=16∧aT a0 1=.pointer (some ⟨w.heap.size,0,none⟩)) (by kernel_rfl) (by kernel_rfl) ⟨rfl,rfl⟩ ?_ ?_ ?_
 ·intro a0 _ l hl0 hl1
  have h2:=hl0 2 (by decide)
  have h10:=hl0 10 (by decide)
  have h12:=hl0 12 (by decide)
  have h14:=hl0 14 (by decide)
  refine ⟨ri_start (Below.refl _ _).drew (fun k hl=>?_) hl1 rfl (fun k h1 h2=>absurd h1 (Nat.not_le.2 h2)),⟨(fun e=>by rw [h2] at e; cases e),⟨_,_,_,HB1.out.1,fun _=>rfl,(fun e=>by rw [h10] at e; cases e),fun _=>rfl,(fun e=>by rw [h12] at e; cases e),fun _=>rfl,(fun e=>by rw [h14] at e; cases e)⟩,HB1.out.2,(fun e=>by rw [h10] at e; cases e),(fun e=>by rw [h12] at e; cases e),(fun e=>by rw [h14] at e; cases e)⟩,Nat.le_refl _⟩
  by_cases hk:k<15
  ·rw [hl0 k hk] at hl; cases hl
  ·exact Nat.not_lt.1 hk
 ·rintro a0 ⟨hz,g1⟩
  refine StepsG.cons ?_ (StepsG.cons ?_ (StepsG.cons ?_ (StepsG.cons ?_ (StepsG.cons ?_ (StepsG.cons ?_ (StepsG.cons ?_ (StepsG.cons ?_ (StepsG.cons ?_ (StepsG.cons ?_ (StepsG.cons ?_ (StepsG.cons ?_ (StepsG.cons ?_ (StepsG.cons ?_ (StepsG.cons ?_ StepsG.nil))))))))))))))
  ·rintro lQ b W ⟨hI,hJ,hS⟩ hUN hED KQ hKQ
   exact opw_field 38 1 0 rfl _ ((hI.fr.same 1 (by decide)).trans g1) _ (by kernel_rfl) (hKQ.out _ _ ⟨hI.put 0 3 rfl rfl (by rw [hz]; decide) rfl hUN rfl HBB (ccS_stb x a1 n1 c1 a2 n2 c2 a3 n3 c3 w.heap.size w1.heap.size) (Below.refl _ _) rfl,hJ.put 0 3 _ (by decide) (by decide) (Below.refl _ _),hS⟩)
  ·rintro lQ b W ⟨hI,hJ,hS⟩ hUN hED KQ hKQ
   have f:aT b 3=.pointer (some ⟨w.heap.size,0,none⟩):=hI.got 0 (of_decide_eq_true rfl) (edge hED 0 (by kernel_rfl)) rfl
   have h7:lQ 10=false:=unC (fun h=>by
    have h1:=hI.cl 2 (of_decide_eq_true rfl) (hJ.e10 h) 1 (List.Mem.head _)
    rw [show lQ 1=false from hUN] at h1
    cases h1)
   obtain ⟨u0,u7,u8,hg,i1,i2,i3,i4,i5,i6⟩:=hJ.box
   obtain rfl:=i1 h7
   have hc:W.cell? ⟨w.heap.size,0,none⟩=some (.slice a1 n1 c1):=qk hg rfl
   exact opw_load1C 35 3 rfl _ f _ (by simp [Instr.loadAt,go_sem,hc]) (hKQ.out _ _ ⟨hI.put 1 4 rfl rfl (by rw [hz]; decide) rfl hUN rfl HBB (ccS_stb x a1 n1 c1 a2 n2 c2 a3 n3 c3 w.heap.size w1.heap.size) (Below.refl _ _) rfl,hJ.put 1 4 _ (by decide) (by decide) (Below.refl _ _),hS⟩)
  ·rintro lQ b W ⟨hI,hJ,hS⟩ hUN hED KQ hKQ
   have f0:aT b 4=.agg #[.slice a1 n1 c1]:=hI.got 1 (of_decide_eq_true rfl) (edge hED 1 (by kernel_rfl)) rfl
   refine opw_call 72 #[.tmp 4] _ _ _ rfl Tryz.func72 (by kernel_rfl) rfl #[.agg #[.slice a1 n1 c1]] (by simp [ev,f0]) ?_
   refine (cloneName_any a1 n1 c1 x.parts W (HRK.out W hI.bel).1.nm hn1 HZ.out.1).mono ?_
   rintro e W2 ⟨p1,d1,rfl,ho,_,hb⟩
   have hbr:NmF w1.heap.size n1 x.parts (.agg #[.slice p1 n1 d1]) W2:=⟨p1,d1,rfl,owns_monoC ho (by omega)⟩
   refine ⟨_,rfl,hKQ.out _ _ ⟨hI.putq 2 5 (fun j hj=>by rcases List.mem_singleton.1 hj with rfl; exact edge hED 1 (by kernel_rfl)) rfl (by rw [hz]; decide) rfl hUN rfl HBB (ccS_stb x a1 n1 c1 a2 n2 c2 a3 n3 c3 w.heap.size w1.heap.size) hb hbr,hJ.call2 _ hUN hb (fun _ h5=>?_),Nat.le_trans hS hb.size⟩⟩
   rw [upd_ne (by decide)] at h5
   obtain ⟨p2,d2,sl,e2,hE,hE2⟩:=hI.got 5 (of_decide_eq_true rfl) h5 rfl
   rw [aT_put_eq (by rw [hI.fr.size,hz]; decide),aT_put_ne (by decide)]
   refine ⟨p1,d1,p2,d2,sl,rfl,owns_monoC ho (by omega),e2,hE.below hb,hE2,fun j hj g hg e=>?_⟩
   have q1:=ownsRow_in ho g e
   have q2:=ownsRow_in (hE.each j hj) g hg
   omega
  ·rintro lQ b W ⟨hI,hJ,hS⟩ hUN hED KQ hKQ
   exact opw_field 38 1 7 rfl _ ((hI.fr.same 1 (by decide)).trans g1) _ (by kernel_rfl) (hKQ.out _ _ ⟨hI.put 3 6 rfl rfl (by rw [hz]; decide) rfl hUN rfl HBB (ccS_stb x a1 n1 c1 a2 n2 c2 a3 n3 c3 w.heap.size w1.heap.size) (Below.refl _ _) rfl,hJ.put 3 6 _ (by decide) (by decide) (Below.refl _ _),hS⟩)
  ·rintro lQ b W ⟨hI,hJ,hS⟩ hUN hED KQ hKQ
   have f:aT b 6=.pointer (some ⟨w.heap.size,7,none⟩):=hI.got 3 (of_decide_eq_true rfl) (edge hED 3 (by kernel_rfl)) rfl
   have h7:lQ 12=false:=unC (fun h=>by
    have h1:=hI.cl 5 (of_decide_eq_true rfl) (hJ.e12 h) 4 (List.Mem.head _)
    rw [show lQ 4=false from hUN] at h1
    cases h1)
   obtain ⟨u0,u7,u8,hg,i1,i2,i3,i4,i5,i6⟩:=hJ.box
   obtain rfl:=i3 h7
   have hc:W.cell? ⟨w.heap.size,7,none⟩=some (.slice a2 n2 c2):=qk hg rfl
   exact opw_load1C 36 6 rfl _ f _ (by simp [Instr.loadAt,go_sem,hc]) (hKQ.out _ _ ⟨hI.put 4 7 rfl rfl (by rw [hz]; decide) rfl hUN rfl HBB (ccS_stb x a1 n1 c1 a2 n2 c2 a3 n3 c3 w.heap.size w1.heap.size) (Below.refl _ _) rfl,hJ.put 4 7 _ (by decide) (by decide) (Below.refl _ _),hS⟩)
  ·rintro lQ b W ⟨hI,hJ,hS⟩ hUN hED KQ hKQ
   have f0:aT b 7=.slice a2 n2 c2:=hI.got 4 (of_decide_eq_true rfl) (edge hED 4 (by kernel_rfl)) rfl
   refine opw_call 73 #[.tmp 7,.func 74] _ _ _ rfl Tryz.func73 (by kernel_rfl) rfl #[.slice a2 n2 c2,.func (Fn.func 74) #[] #[]] (by simp [ev,f0]; rfl) ?_
   refine (eachGone_any a2 n2 c2 x.ents W (HRK.out W hI.bel).1.en HZ.out.2.2.1 (HRK.out W hI.bel).2).mono ?_
   rintro e W2 ⟨p2,d2,sl,rfl,ho,hlen,hb⟩
   have hbr:EnF w1.heap.size n2 x.ents (.slice p2 n2 d2) W2:=⟨p2,d2,sl,rfl,ho.monoC hS,hlen⟩
   refine ⟨_,rfl,hKQ.out _ _ ⟨hI.putq 5 8 (fun j hj=>by rcases List.mem_singleton.1 hj with rfl; exact edge hED 4 (by kernel_rfl)) rfl (by rw [hz]; decide) rfl hUN rfl HBB (ccS_stb x a1 n1 c1 a2 n2 c2 a3 n3 c3 w.heap.size w1.heap.size) hb hbr,hJ.call5 _ hUN hb (fun h2 _=>?_),Nat.le_trans hS hb.size⟩⟩
   rw [upd_ne (by decide)] at h2
   obtain ⟨p1,d1,e1,hN⟩:=hI.got 2 (of_decide_eq_true rfl) h2 rfl
   rw [aT_put_eq (by rw [hI.fr.size,hz]; decide),aT_put_ne (by decide)]
   refine ⟨p1,d1,p2,d2,sl,e1,ownsRow_below hN hb,rfl,ho.monoC hS,hlen,fun j hj g hg e=>?_⟩
   have q1:=ownsRow_in hN g e
   have q2:=ownsRow_in (ho.each j hj) g hg
   omega
  ·rintro lQ b W ⟨hI,hJ,hS⟩ hUN hED KQ hKQ
   exact opw_field 38 1 8 rfl _ ((hI.fr.same 1 (by decide)).trans g1) _ (by kernel_rfl) (hKQ.out _ _ ⟨hI.put 6 9 rfl rfl (by rw [hz]; decide) rfl hUN rfl HBB (ccS_stb x a1 n1 c1 a2 n2 c2 a3 n3 c3 w.heap.size w1.heap.size) (Below.refl _ _) rfl,hJ.put 6 9 _ (by decide) (by decide) (Below.refl _ _),hS⟩)
  ·rintro lQ b W ⟨hI,hJ,hS⟩ hUN hED KQ hKQ
   have f:aT b 9=.pointer (some ⟨w.heap.size,8,none⟩):=hI.got 6 (of_decide_eq_true rfl) (edge hED 6 (by kernel_rfl)) rfl
   have h7:lQ 14=false:=unC (fun h=>by
    have h1:=hI.cl 8 (of_decide_eq_true rfl) (hJ.e14 h) 7 (List.Mem.head _)
    rw [show lQ 7=false from hUN] at h1
    cases h1)
   obtain ⟨u0,u7,u8,hg,i1,i2,i3,i4,i5,i6⟩:=hJ.box
   obtain rfl:=i5 h7
   have hc:W.cell? ⟨w.heap.size,8,none⟩=some (.slice a3 n3 c3):=qk hg rfl
   exact opw_load1C 26 9 rfl _ f _ (by simp [Instr.loadAt,go_sem,hc]) (hKQ.out _ _ ⟨hI.put 7 10 rfl rfl (by rw [hz]; decide) rfl hUN rfl HBB (ccS_stb x a1 n1 c1 a2 n2 c2 a3 n3 c3 w.heap.size w1.heap.size) (Below.refl _ _) rfl,hJ.put 7 10 _ (by decide) (by decide) (Below.refl _ _),hS⟩)
  ·rintro lQ b W ⟨hI,hJ,hS⟩ hUN hED KQ hKQ
   have f0:aT b 10=.slice a3 n3 c3:=hI.got 7 (of_decide_eq_true rfl) (edge hED 7 (by kernel_rfl)) rfl
   refine opw_call 75 #[.tmp 10] _ _ _ rfl Tryz.func75 (by kernel_rfl) rfl #[.slice a3 n3 c3] (by simp [ev,f0]) ?_
   refine (clone_any a3 n3 c3 x.sig W (HRK.out W hI.bel).1.sg hn3 HZ.out.2.2.2.2).mono ?_
   rintro e W2 ⟨p3,d3,rfl,ho,hb⟩
   have hbr:SgF w1.heap.size n3 x.sig (.slice p3 n3 d3) W2:=⟨p3,d3,rfl,ho.mono hS⟩
   exact ⟨_,rfl,hKQ.out _ _ ⟨hI.putq 8 11 (fun j hj=>by rcases List.mem_singleton.1 hj with rfl; exact edge hED 7 (by kernel_rfl)) rfl (by rw [hz]; decide) rfl hUN rfl HBB (ccS_stb x a1 n1 c1 a2 n2 c2 a3 n3 c3 w.heap.size w1.heap.size) hb hbr,hJ.call8 _ hUN hb,Nat.le_trans hS hb.size⟩⟩
  ·rintro lQ b W ⟨hI,hJ,hS⟩ hUN hED KQ hKQ
   exact opw_field 38 1 0 rfl _ ((hI.fr.same 1 (by decide)).trans g1) _ (by kernel_rfl) (hKQ.out _ _ ⟨hI.put 9 12 rfl rfl (by rw [hz]; decide) rfl hUN rfl HBB (ccS_stb x a1 n1 c1 a2 n2 c2 a3 n3 c3 w.heap.size w1.heap.size) (Below.refl _ _) rfl,hJ.put 9 12 _ (by decide) (by decide) (Below.refl _ _),hS⟩)
  ·rintro lQ b W ⟨hI,hJ,hS⟩ hUN hED KQ hKQ
   have fp:aT b 12=.pointer (some ⟨w.heap.size,0,none⟩):=hI.got 9 (of_decide_eq_true rfl) (edge hED 9 (by kernel_rfl)) rfl
   have fu:=hI.got 2 (of_decide_eq_true rfl) (edge hED 2 (by kernel_rfl)) rfl
   obtain ⟨p,q,f⟩:∃ p q,aT b 5=.agg #[.slice p n1 q]:=by
    obtain ⟨p,q,e,_⟩:=fu
    exact ⟨p,q,e⟩
   obtain ⟨u0,u7,u8,hgb,i1,i2,i3,i4,i5,i6⟩:=hJ.box
   obtain rfl:=i1 hUN
   have hcc:W.cell? ⟨w.heap.size,0,none⟩=some (.slice a1 n1 c1):=qk hgb rfl
   have hfz:=frozen_of_row W _ 0 _ _ hgb
   refine opw_storeC 35 12 5 rfl ⟨w.heap.size,0,none⟩ _ fp f (W.setCell ⟨w.heap.size,0,none⟩ (.slice p n1 q)) (by simp [Instr.storeAt,go_sem,hcc,hfz]) ?_
   have ht:Touch w.heap.size (w.heap.size+1) W (W.setCell ⟨w.heap.size,0,none⟩ (.slice p n1 q)):=touch_setC _ _ _ _ (Nat.le_refl _) (Nat.lt_succ_self _)
   exact hKQ.out _ _ ⟨hI.store 10 (fun j hj=>by cases hj) (hI.bel.trans (ht.below (Nat.le_refl _) (Nat.le_trans HBB hI.bel.size))) (fun k hk _ _ v hf=>ccS_st x a1 n1 c1 a2 n2 c2 a3 n3 c3 w.heap.size w1.heap.size hGR ht k hk v hf) trivial,hJ.store10 hGR (.slice p n1 q) f (edge hED 2 (by kernel_rfl)) ht (fun u0 u7 u8 hx=>(heap_setCell_same W _ 0 _ _ _ hx).trans rfl),Nat.le_trans hS ht.size⟩
  ·rintro lQ b W ⟨hI,hJ,hS⟩ hUN hED KQ hKQ
   exact opw_field 38 1 7 rfl _ ((hI.fr.same 1 (by decide)).trans g1) _ (by kernel_rfl) (hKQ.out _ _ ⟨hI.put 11 13 rfl rfl (by rw [hz]; decide) rfl hUN rfl HBB (ccS_stb x a1 n1 c1 a2 n2 c2 a3 n3 c3 w.heap.size w1.heap.size) (Below.refl _ _) rfl,hJ.put 11 13 _ (by decide) (by decide) (Below.refl _ _),hS⟩)
  ·rintro lQ b W ⟨hI,hJ,hS⟩ hUN hED KQ hKQ
   have fp:aT b 13=.pointer (some ⟨w.heap.size,7,none⟩):=hI.got 11 (of_decide_eq_true rfl) (edge hED 11 (by kernel_rfl)) rfl
   have fu:=hI.got 5 (of_decide_eq_true rfl) (edge hED 5 (by kernel_rfl)) rfl
   obtain ⟨p,q,f⟩:∃ p q,aT b 8=.slice p n2 q:=by
    obtain ⟨p,q,_,e,_⟩:=fu
    exact ⟨p,q,e⟩
   obtain ⟨u0,u7,u8,hgb,i1,i2,i3,i4,i5,i6⟩:=hJ.box
   obtain rfl:=i3 hUN
   have hcc:W.cell? ⟨w.heap.size,7,none⟩=some (.slice a2 n2 c2):=qk hgb rfl
   have hfz:=frozen_of_row W _ 7 _ _ hgb
   refine opw_storeC 36 13 8 rfl ⟨w.heap.size,7,none⟩ _ fp f (W.setCell ⟨w.heap.size,7,none⟩ (.slice p n2 q)) (by simp [Instr.storeAt,go_sem,hcc,hfz]) ?_
   have ht:Touch w.heap.size (w.heap.size+1) W (W.setCell ⟨w.heap.size,7,none⟩ (.slice p n2 q)):=touch_setC _ _ _ _ (Nat.le_refl _) (Nat.lt_succ_self _)
   exact hKQ.out _ _ ⟨hI.store 12 (fun j hj=>by cases hj) (hI.bel.trans (ht.below (Nat.le_refl _) (Nat.le_trans HBB hI.bel.size))) (fun k hk _ _ v hf=>ccS_st x a1 n1 c1 a2 n2 c2 a3 n3 c3 w.heap.size w1.heap.size hGR ht k hk v hf) trivial,hJ.store12 hGR (.slice p n2 q) f (edge hED 5 (by kernel_rfl)) ht (fun u0 u7 u8 hx=>(heap_setCell_same W _ 7 _ _ _ hx).trans rfl),Nat.le_trans hS ht.size⟩
  ·rintro lQ b W ⟨hI,hJ,hS⟩ hUN hED KQ hKQ
   exact opw_field 38 1 8 rfl _ ((hI.fr.same 1 (by decide)).trans g1) _ (by kernel_rfl) (hKQ.out _ _ ⟨hI.put 13 14 rfl rfl (by rw [hz]; decide) rfl hUN rfl HBB (ccS_stb x a1 n1 c1 a2 n2 c2 a3 n3 c3 w.heap.size w1.heap.size) (Below.refl _ _) rfl,hJ.put 13 14 _ (by decide) (by decide) (Below.refl _ _),hS⟩)
  ·rintro lQ b W ⟨hI,hJ,hS⟩ hUN hED KQ hKQ
   have fp:aT b 14=.pointer (some ⟨w.heap.size,8,none⟩):=hI.got 13 (of_decide_eq_true rfl) (edge hED 13 (by kernel_rfl)) rfl
   have fu:=hI.got 8 (of_decide_eq_true rfl) (edge hED 8 (by kernel_rfl)) rfl
   obtain ⟨p,q,f⟩:∃ p q,aT b 11=.slice p n3 q:=by
    obtain ⟨p,q,e,_⟩:=fu
    exact ⟨p,q,e⟩
   obtain ⟨u0,u7,u8,hgb,i1,i2,i3,i4,i5,i6⟩:=hJ.box
   obtain rfl:=i5 hUN
   have hcc:W.cell? ⟨w.heap.size,8,none⟩=some (.slice a3 n3 c3):=qk hgb rfl
   have hfz:=frozen_of_row W _ 8 _ _ hgb
   refine opw_storeC 26 14 11 rfl ⟨w.heap.size,8,none⟩ _ fp f (W.setCell ⟨w.heap.size,8,none⟩ (.slice p n3 q)) (by simp [Instr.storeAt,go_sem,hcc,hfz]) ?_
   have ht:Touch w.heap.size (w.heap.size+1) W (W.setCell ⟨w.heap.size,8,none⟩ (.slice p n3 q)):=touch_setC _ _ _ _ (Nat.le_refl _) (Nat.lt_succ_self _)
   exact hKQ.out _ _ ⟨hI.store 14 (fun j hj=>by cases hj) (hI.bel.trans (ht.below (Nat.le_refl _) (Nat.le_trans HBB hI.bel.size))) (fun k hk _ _ v hf=>ccS_st x a1 n1 c1 a2 n2 c2 a3 n3 c3 w.heap.size w1.heap.size hGR ht k hk v hf) trivial,hJ.store14 hGR (.slice p n3 q) f (edge hED 8 (by kernel_rfl)) ht (fun u0 u7 u8 hx=>(heap_setCell_same W _ 8 _ _ _ hx).trans rfl),Nat.le_trans hS ht.size⟩
 ·rintro l b W ⟨hI,hJ,hS⟩ hall
  obtain ⟨p1,d1,p2,d2,p3,d3,sl,hbx,q1,q2,q3,q4,q5⟩:=hJ.done (hI.got 8 (of_decide_eq_true rfl) (hall 8) rfl) hall
  have hrs:=hJ.res
  have hbW:=hI.bel
  rw [hI.fr.eq]
  simp only [puts,Act.put,List.setIfInBounds_toArray,List.set_cons_zero,List.set_cons_succ]
  generalize aT b=AT
  have HX:Hid (_∧_∧_∧_∧_):=⟨q1,q2,q3,q4,q5⟩
  have HBX:Hid (W.heap[w.heap.size]? = some (.cells #[.slice p1 n1 d1,.int .i64 x.num,.int .i64 x.base,.int .i64 x.tm,.int .i64 x.next,.int .i64 x.scope,.bool x.ind,.slice p2 n2 d2,.slice p3 n3 d3] 38 (0,0))∧W.heap[w.heap.size+1]? = some (.cells #[.slice none 0 0,.int .i64 0,.int .i64 0,.int .i64 0,.int .i64 0,.int .i64 0,.bool false,.slice none 0 0,.slice none 0 0] 38 (0,0))):=⟨hbx,hrs⟩
  clear hI hJ hall HB1 q1 q2 q3 q4 q5 hbx hrs
  go_wp2_with (first | (refine wpList_load_row rfl 38 _ rfl w.heap.size rfl 38 #[.slice p1 n1 d1,.int .i64 x.num,.int .i64 x.base,.int .i64 x.tm,.int .i64 x.next,.int .i64 x.scope,.bool x.ind,.slice p2 n2 d2,.slice p3 n3 d3] (0,0) _ HBX.out.1 Tryz.underlying38 rfl infoSizeCrl ?_) | (refine wpList_store_rowTo rfl 38 _ _ rfl rfl (w.heap.size+1) #[.slice p1 n1 d1,.int .i64 x.num,.int .i64 x.base,.int .i64 x.tm,.int .i64 x.next,.int .i64 x.scope,.bool x.ind,.slice p2 n2 d2,.slice p3 n3 d3] rfl rfl 38 #[.slice none 0 0,.int .i64 0,.int .i64 0,.int .i64 0,.int .i64 0,.int .i64 0,.bool false,.slice none 0 0,.slice none 0 0] HBX.out.2 infoSizeCrl rfl (by simp [Value.oneCell']) ?_))
  have q6:=setRow_heap W (w.heap.size+1) _ #[.slice p1 n1 d1,.int .i64 x.num,.int .i64 x.base,.int .i64 x.tm,.int .i64 x.next,.int .i64 x.scope,.bool x.ind,.slice p2 n2 d2,.slice p3 n3 d3] 38 (0,0) HBX.out.2
  have tt:=setRow_touch W (w.heap.size+1) #[.slice p1 n1 d1,.int .i64 x.num,.int .i64 x.base,.int .i64 x.tm,.int .i64 x.next,.int .i64 x.scope,.bool x.ind,.slice p2 n2 d2,.slice p3 n3 d3]
  try simp only [Exit.inBlock,Exit.then]
  have hrow:=owns_touchC HX.out.1 tt (by omega)
  have hEQ:=HX.out.2.1.touchC tt (by omega)
  have hown:Own w1.heap.size (W.setRow (w.heap.size+1) #[.slice p1 n1 d1,.int .i64 x.num,.int .i64 x.base,.int .i64 x.tm,.int .i64 x.next,.int .i64 x.scope,.bool x.ind,.slice p2 n2 d2,.slice p3 n3 d3]) p3 n3 d3 x.sig:=⟨owns_touchC HX.out.2.2.2.2.row tt (by omega),HX.out.2.2.2.2.byte⟩
  have hcl:=cloned_of (owns_monoC hrow HBB) (hEQ.monoC HBB) (hown.mono HBB) HX.out.2.2.1 HL.out.1 HL.out.2 hown.toRow HZ.out HX.out.2.2.2.1
  have hct:CrsT w.heap.size (W.setRow (w.heap.size+1) #[.slice p1 n1 d1,.int .i64 x.num,.int .i64 x.base,.int .i64 x.tm,.int .i64 x.next,.int .i64 x.scope,.bool x.ind,.slice p2 n2 d2,.slice p3 n3 d3]) p1 n1 p2 n2 p3 n3 x:=fun W' lo hi t2 h3=>by
   have ho2:Own w1.heap.size W' p3 n3 d3 x.sig:=⟨owns_touchC hown.row t2 (by omega),hown.byte⟩
   exact (cloned_of (owns_monoC (owns_touchC hrow t2 (by omega)) HBB) ((hEQ.touchC t2 (by omega)).monoC HBB) (ho2.mono HBB) HX.out.2.2.1 HL.out.1 HL.out.2 ho2.toRow HZ.out HX.out.2.2.2.1).1
  exact bodyPost_ret (results_cell_row (by rfl) _ _ (w.heap.size+1) _ _ (0,0) _ rfl q6 Tryz.underlying38 rfl infoSizeCrl) rfl ⟨p1,d1,p2,d2,p3,d3,sl,rfl,hct,hcl.2,(hbb.trans hbW).trans (tt.below (by omega) (hbb.trans hbW).size)⟩
open Go.RowKit Go.Sort
theorem cells1N {W:World}{g:Nat}{u v:Value}{t:TypeId}(h:W.heap[g]? = some (.cells #[u] t (0,0)))(h2:W.heap[g+1]? = some (.cells #[v] t (0,0))):W.cell? ⟨g,0,none⟩=some u∧W.cell? ⟨g+1,0,none⟩=some v:=⟨(cell_of_row W g 0 _ t (0,0) h).trans rfl,(cell_of_row W (g+1) 0 _ t (0,0) h2).trans rfl⟩
theorem froz1N {W:World}{g:Nat}{u v:Value}{t:TypeId}(h:W.heap[g]? = some (.cells #[u] t (0,0)))(h2:W.heap[g+1]? = some (.cells #[v] t (0,0))):W.frozen? ⟨g,0,none⟩=false∧W.frozen? ⟨g+1,0,none⟩=false:=⟨frozen_of_row W g 0 _ t h,frozen_of_row W (g+1) 0 _ t h2⟩
theorem l9CopyName_any (a:Option Addr)(n cap:Nat)(ps:List PT)(w:World)(h:Pts w a n ps)(hnil:a=none→cap=0)(hn:n≤1048576) :
  Calls Tryz.prog 38 #[.agg #[.slice a n cap]] w fun e w'=>∃ a' c',e=.returned (.agg #[.slice a' n c'])∧w'.ownsRow w.heap.size 132 2 (.slice a' n c') n (flPt ps)∧Below w.heap.size w w':=by
 obtain ⟨i0,hi,hz0,hz1,hz2⟩:=info_parts Tryz.infoPart
 obtain ⟨W0,hW0⟩:∃ W0,W0=(w.alloc (.cells #[.slice a n cap] 35)).alloc (.cells #[.slice none 0 0] 35):=⟨_,rfl⟩
 have hB0:Below w.heap.size w W0:=by rw [hW0]; exact two_below _ _ _
 have hS0:W0.heap.size=w.heap.size+2:=by rw [hW0]; simp
 have b0:=two_blocks w (.cells #[.slice a n cap] 35) (.cells #[.slice none 0 0] 35)
 rw [← hW0] at b0
 have hal:Below W0.heap.size W0 (W0.alloc (.cells #[] 132)):=(Below.refl _ _).alloc (Nat.le_refl _) _
 have hz1':(W0.alloc (.cells #[] 132)).heap.size=w.heap.size+3:=by simp [hS0]
 have c0:(W0.alloc (.cells #[] 132)).heap[w.heap.size]? = some (.cells #[.slice a n cap] 35 (0,0)):=(hal.block w.heap.size (by omega)).trans b0.1
 have c1:(W0.alloc (.cells #[] 132)).heap[w.heap.size+1]? = some (.cells #[.slice none 0 0] 35 (0,0)):=(hal.block (w.heap.size+1) (by omega)).trans b0.2
 have x0:W0.cell? ⟨w.heap.size,0,none⟩=some (.slice a n cap):=qk b0.1 rfl
 have x1:(W0.alloc (.cells #[] 132)).cell? ⟨w.heap.size,0,none⟩=some (.slice a n cap):=qk c0 rfl
 have HO:Hid ((W0.alloc (.cells #[] 132)).ownsRow (w.heap.size+2) 132 2 (.slice (some ⟨w.heap.size+2,0,none⟩) 0 0) 0 []):=by show World.ownsRow _ _ _ _ _ _ _; rw [← hS0]; exact ⟨rfl,.inr ⟨W0.heap.size,0,#[],rfl,Nat.le_refl _,heap_alloc_new W0 _,Nat.le_refl _,by decide,rfl,rfl⟩⟩
 have HR:Hid (Pts (W0.alloc (.cells #[] 132)) a n ps):=(h.kept hB0).kept hal
 have HBA:Hid (Below w.heap.size w (W0.alloc (.cells #[] 132))):=hB0.trans (hal.mono hB0.size)
 have HC:Hid (_∧_):=⟨c0,c1⟩
 have HFIN:Hid (∀ (v1:Option Addr) (cc:Nat) (w1:World),w1.ownsRow (w.heap.size+2) 132 2 (.slice v1 n cc) n (flPt ps)→(W0.alloc (.cells #[] 132)).grownBy w1 (some (w.heap.size+2)) →
   (w1.heap[w.heap.size]? = some (.cells #[.slice a n cap] 35 (0,0))∧w1.heap[w.heap.size+1]? = some (.cells #[.slice none 0 0] 35 (0,0)))∧Below w.heap.size w w1):=by
  intro v1 cc w1 ho hg
  refine ⟨⟨(hg.block w.heap.size (by omega) (fun e=>by injection e; omega)).trans HC.out.1,(hg.block (w.heap.size+1) (by omega) (fun e=>by injection e; omega)).trans HC.out.2⟩,HBA.out.grown hg HBA.out.size (fun l hl=>by injection hl; omega)⟩
 have HW:Hid (_=_):=hW0
 clear hW0 h hB0 b0 hal c0 c1
 have HEND:Hid (∀ (v1:Option Addr) (cc:Nat) (w1:World),w1.ownsRow (w.heap.size+2) 132 2 (.slice v1 n cc) n (flPt ps)→(w1.heap[w.heap.size]? = some (.cells #[.slice a n cap] 35 (0,0))∧w1.heap[w.heap.size+1]? = some (.cells #[.slice none 0 0] 35 (0,0)))→Below w.heap.size w w1 →
   ((w1.setCell ⟨w.heap.size,0,none⟩ (.slice v1 n cc)).setCell ⟨w.heap.size+1,0,none⟩ (.slice v1 n cc)).heap[w.heap.size+1]? = some (.cells #[.slice v1 n cc] 35 (0,0))∧((w1.setCell ⟨w.heap.size,0,none⟩ (.slice v1 n cc)).setCell ⟨w.heap.size+1,0,none⟩ (.slice v1 n cc)).ownsRow w.heap.size 132 2 (.slice v1 n cc) n (flPt ps)∧Below w.heap.size w ((w1.setCell ⟨w.heap.size,0,none⟩ (.slice v1 n cc)).setCell ⟨w.heap.size+1,0,none⟩ (.slice v1 n cc))):=by
  intro v1 cc w1 ho hb hB
  have t1:=touch_setC (p:=w.heap.size) (q:=w.heap.size+1) w1 w.heap.size 0 (.slice v1 n cc) (Nat.le_refl _) (Nat.lt_succ_self _)
  have t2:=touch_setC (p:=w.heap.size+1) (q:=w.heap.size+2) (w1.setCell ⟨w.heap.size,0,none⟩ (.slice v1 n cc)) (w.heap.size+1) 0 (.slice v1 n cc) (Nat.le_refl _) (Nat.lt_succ_self _)
  have hsz:=(Array.getElem?_eq_some_iff.1 hb.2).1
  refine ⟨(heap_setCell_same _ (w.heap.size+1) 0 _ _ _ ((t1.block (w.heap.size+1) hsz (.inr (Nat.le_refl _))).trans hb.2)).trans rfl,owns_monoC (owns_touchC (owns_touchC ho t1 (by omega)) t2 (by omega)) (by omega),(hB.setCell (Nat.le_refl _) _).setCell (Nat.le_succ _) _⟩
 cases a with
 | none =>
  have hzn:n=0:=by
   by_cases h0:0<n
   ·obtain ⟨_,_,h1,_⟩:=HR.out.get 0 h0
    cases h1
   ·omega
  subst hzn
  obtain rfl:=hnil rfl
  have hps:ps = []:=List.eq_nil_of_length_eq_zero HR.out.len
  subst hps
  go_enter Tryz.func38,Tryz.ntmps38
  go_upto_region 1 with fail
  rw [← HW.out]
  clear HW
  go_wp2_with (at_builtin; refine wpList_append_own_none rfl (.tmp 3) (.tmp 5) 33 rfl (w.heap.size+2) 132 i0 2 Tryz.underlying33 hi (.slice (some ⟨w.heap.size+2,0,none⟩) 0 0) 0 [] rfl HO.out rfl ?_; obtain ⟨⟨d0,d1⟩,hB1⟩:=HFIN.out (some ⟨w.heap.size+2,0,none⟩) 0 _ HO.out (World.grownBy.refl _ _); have HE:=HEND.out (some ⟨w.heap.size+2,0,none⟩) 0 _ HO.out ⟨d0,d1⟩ hB1; clear HFIN HEND HO HR HC HBA x1 hz1'; obtain ⟨w1x,hw1x⟩:∃ w1x,w1x=W0.alloc (.cells #[] 132):=⟨_,rfl⟩; rw [← hw1x] at HE hB1 d0 d1 ⊢; clear hw1x; have HQ:Hid (_∧_):=⟨HE,hB1⟩; clear HE hB1; obtain ⟨y0,y1⟩:=cells1N d0 d1; obtain ⟨z0,z1⟩:=froz1N d0 d1)
  try simp only [Exit.inBlock,Exit.then]
  exact bodyPost_ret (results_nm rfl _ (w.heap.size+1) rfl _ _ HQ.out.1.1) rfl ⟨_,_,rfl,HQ.out.1.2.1,HQ.out.1.2.2⟩
 | some ad =>
  have HN:Hid (∀ j u,(flPt ps)[j]? = some u→(W0.alloc (.cells #[] 132)).cell? (ad.add j)=some u):=by
   by_cases h0:0<n
   ·obtain ⟨b,off,ha,_⟩:=HR.out.get 0 h0
    injection ha with ha
    subst ha
    exact newsPt HR.out
   ·intro j u hu
    have:=(List.getElem?_eq_some_iff.1 hu).1
    rw [flPt_len,HR.out.len] at this
    omega
  have HL:Hid ((flPt ps).length=n * 2):=by show _=_; rw [flPt_len,HR.out.len]
  go_enter Tryz.func38,Tryz.ntmps38
  go_upto_region 1 with fail
  rw [← HW.out]
  clear HW
  go_wp2_with (at_builtin; refine wpList_append_own _ rfl (.tmp 3) (.tmp 5) 33 rfl (w.heap.size+2) 132 i0 _ 2 24 Tryz.underlying33 hi hz0 hz1 hz2 rfl (by decide) _ 0 [] rfl HO.out ad n cap (flPt ps) rfl HL.out HN.out (flPt_one ps) (by unfold maxLen; omega) (by omega) (by omega) ?_; intro v1 w1 hv1 hg1 _; rw [Nat.zero_add,List.nil_append] at hv1; obtain ⟨a1,cc1,rfl⟩:=owns_shapeP hv1; obtain ⟨⟨d0,d1⟩,hB1⟩:=HFIN.out a1 cc1 w1 hv1 hg1; have HE:=HEND.out a1 cc1 w1 hv1 ⟨d0,d1⟩ hB1; have HQ:Hid (_∧_):=⟨HE,hB1⟩; clear HE hB1 hv1 hg1; obtain ⟨y0,y1⟩:=cells1N d0 d1; obtain ⟨z0,z1⟩:=froz1N d0 d1)
  try simp only [Exit.inBlock,Exit.then]
  exact bodyPost_ret (results_nm rfl _ (w.heap.size+1) rfl _ _ HQ.out.1.1) rfl ⟨a1,cc1,rfl,HQ.out.1.2.1,HQ.out.1.2.2⟩
open Go.RowKit Go.Sort
theorem EachQ.lit (w:World)(B:Nat)(hB:B≤w.heap.size)(xs:List GP)(sl:Nat→Sl):EachQ B (w.alloc (.cells #[] 74)) (some ⟨w.heap.size,0,none⟩) 0 0 xs sl :=
 ⟨⟨rfl,.inr ⟨w.heap.size,0,#[],rfl,hB,heap_alloc_new w _,Nat.le_refl _,by decide,rfl,rfl⟩⟩,fun j hj=>absurd hj (Nat.not_lt_zero _),fun i j _ hj=>absurd hj (Nat.not_lt_zero _)⟩
theorem l10Gones_any (a:Option Addr)(n c:Nat)(xs:List GP)(w:World)(h:Gns w a n xs)(hn:n≤1048576)(hc0:∀ k,k<n→∀ b off an nn cn,a=some ⟨b,off,none⟩→w.cell? ⟨b,off+k * 4,none⟩=some (.slice an nn cn)→(an=none→cn=0)∧nn≤1048576) :
  Calls Tryz.prog 39 #[.slice a n c] w fun e w'=>∃ a' c' sl,e=.returned (.slice a' n c')∧EachQ w.heap.size w' a' n c' xs sl∧(∀ j,j<n→(sl j).2.1=(xs.getD j default).parts.length)∧Below w.heap.size w w':=by
 obtain ⟨i0,hi,hz0,hz1,hz2⟩:=info_parts Tryz.infoGone
 have H0:Hid (Gns w a n xs):=h
 have HC0:Hid (∀ k,k<n→∀ b off an nn cn,a=some ⟨b,off,none⟩→w.cell? ⟨b,off+k * 4,none⟩=some (.slice an nn cn)→(an=none→cn=0)∧nn≤1048576):=hc0
 have hB1:Below w.heap.size w (w.alloc (.cells #[] 74)):=(Below.refl _ _).alloc (Nat.le_refl _) _
 clear h hc0
 go_enter Tryz.func39,Tryz.ntmps39
 go_wp2
 go_loopw [3,4] (fun o i wr=>∃ (k:Nat) (ao:Option Addr) (cc:Nat),k≤n∧i=.int .i64 k∧o=.slice ao k cc∧Hid (∃ sl,EachQ w.heap.size wr ao k cc xs sl∧∀ j,j<k→(sl j).2.1=(xs.getD j default).parts.length)∧Below w.heap.size w wr) (fun _ i _=>n - (intOf i).toNat)
 case atStart=>exact ⟨0,_,0,Nat.zero_le _,rfl,rfl,⟨fun _=>(none,0,0),EachQ.lit w w.heap.size (Nat.le_refl _) _ _,fun j hj=>absurd hj (Nat.not_lt_zero _)⟩,hB1⟩
 case round =>
  obtain ⟨k,ao,cc,hk,rfl,rfl,HO,hbr⟩:=hrel
  have hws:=hbr.size
  by_cases hlt:k<n
  ·obtain ⟨b,off,a1,n1,d1,rfl,hlb,hc,hp⟩:=H0.out.get k hlt
   obtain ⟨hnl,hn1⟩:=HC0.out k hlt b off a1 n1 d1 rfl hc.c0
   obtain ⟨y,hy⟩:∃ y,y=xs.getD k default:=⟨_,rfl⟩
   rw [← hy] at hc hp
   have HY:Hid (y=xs.getD k default):=hy
   obtain ⟨c0,c1,c2,c3⟩:=hc.of (w':=wr) (fun i=>hbr.cell (p:=⟨b,i,none⟩) hlb)
   have hkni:(k:Int)<(n:Int):=by omega
   have hbw:b<wr.heap.size:=by omega
   have HPL:Hid (y.parts.length=n1):=hp.len
   have HRW:Hid (Pts wr a1 n1 y.parts):=hp.kept hbr
   clear hc hy hp
   obtain ⟨W1,hW1⟩:∃ W1,W1=wr.alloc (.cells #[.slice a1 n1 d1,.int .i64 y.ser,.int .i64 y.tm,.int .i64 y.rs] 74):=⟨_,rfl⟩
   have hb01:Below wr.heap.size wr W1:=by rw [hW1]; exact (Below.refl _ _).alloc (Nat.le_refl _) _
   have hx1:W1.heap[wr.heap.size]? = some (.cells #[.slice a1 n1 d1,.int .i64 y.ser,.int .i64 y.tm,.int .i64 y.rs] 74 (0,0)):=by rw [hW1]; exact heap_alloc_new wr _
   have hs1:W1.heap.size=wr.heap.size+1:=by rw [hW1]; simp
   have HW1:Hid (_=_):=hW1
   have HB01:Hid (_):=hb01
   have HX1:Hid (_=_):=hx1
   clear hW1 hx1 hb01
   go_upto_region 6 with fail
   rw [← HW1.out]
   clear HW1 c0 c1 c2 c3
   have e0:W1.cell? ⟨wr.heap.size,0,none⟩=some (.slice a1 n1 d1):=qk HX1.out rfl
   go_wp2_with fail
   refine (l9CopyName_any a1 n1 d1 y.parts W1 (HRW.out.kept HB01.out) hnl hn1).mono ?_
   rintro e w2 ⟨a2,cc2,rfl,ho2,hb2⟩
   have hx2:=(hb2.block wr.heap.size (by omega)).trans HX1.out
   have f0:w2.cell? ⟨wr.heap.size,0,none⟩=some (.slice a1 n1 d1):=qk hx2 rfl
   have fz:w2.frozen? ⟨wr.heap.size,0,none⟩=false:=frozen_of_row w2 wr.heap.size 0 _ 74 hx2
   obtain ⟨w3,hw3⟩:∃ w3,w3=w2.setCell ⟨wr.heap.size,0,none⟩ (.slice a2 n1 cc2):=⟨_,rfl⟩
   have t3:Touch wr.heap.size (wr.heap.size+1) w2 w3:=by rw [hw3]; exact touch_setC _ _ _ _ (Nat.le_refl _) (Nat.lt_succ_self _)
   have hx3:w3.heap[wr.heap.size]? = some (.cells #[.slice a2 n1 cc2,.int .i64 y.ser,.int .i64 y.tm,.int .i64 y.rs] 74 (0,0)):=by rw [hw3]; exact (heap_setCell_same w2 wr.heap.size 0 _ 74 _ hx2).trans rfl
   have hb03:Below wr.heap.size wr w3:=(HB01.out.trans (hb2.mono HB01.out.size)).trans (t3.below (Nat.le_refl _) (HB01.out.trans (hb2.mono HB01.out.size)).size)
   have ho3:w3.ownsRow w.heap.size 132 2 (.slice a2 n1 cc2) n1 (flPt y.parts):=owns_monoC (owns_touchC ho2 t3 (by omega)) (by omega)
   have B3:Below w.heap.size w w3:=hbr.trans (hb03.mono hws)
   obtain ⟨sl,hps,hcn⟩:=HO.out
   have HAP:Hid (∀ j,j<k→∀ g,(sl j).1=some ⟨g,0,none⟩→a2≠some ⟨g,0,none⟩):=by
    intro j hj g h1 h2
    have e1:=(ownsRow_in (hps.each j hj) g h1).2
    have e2:=(ownsRow_in ho2 g h2).1
    omega
   have hal:Below w3.heap.size w3 (w3.alloc (.cells #[.slice a2 n1 cc2,.int .i64 y.ser,.int .i64 y.tm,.int .i64 y.rs] 74)):=(Below.refl _ _).alloc (Nat.le_refl _) _
   have HQ3:Hid (EachQ w.heap.size (w3.alloc (.cells #[.slice a2 n1 cc2,.int .i64 y.ser,.int .i64 y.tm,.int .i64 y.rs] 74)) ao k cc xs sl):=(hps.below hb03).below hal
   have HON:Hid ((w3.alloc (.cells #[.slice a2 n1 cc2,.int .i64 y.ser,.int .i64 y.tm,.int .i64 y.rs] 74)).ownsRow w.heap.size 132 2 (.slice a2 n1 cc2) n1 (flPt (xs.getD k default).parts)):=by
    show World.ownsRow _ _ _ _ _ _ _
    rw [← HY.out]
    exact ownsRow_below ho3 hal
   have B6:Below w.heap.size w (w3.alloc (.cells #[.slice a2 n1 cc2,.int .i64 y.ser,.int .i64 y.tm,.int .i64 y.rs] 74)):=B3.trans (hal.mono B3.size)
   have HCN:Hid (∀ j,j<k→(sl j).2.1=(xs.getD j default).parts.length):=hcn
   have HAPP:Hid (∀ a7 c7 w7,w7.ownsRow w.heap.size 74 4 (.slice a7 (k+1) c7) (k+1) (flG xs sl k++[.slice a2 n1 cc2,.int .i64 y.ser,.int .i64 y.tm,.int .i64 y.rs])→(w3.alloc (.cells #[.slice a2 n1 cc2,.int .i64 y.ser,.int .i64 y.tm,.int .i64 y.rs] 74)).grownBy w7 (Value.slice ao k cc).ownBlock→(∃ sl,EachQ w.heap.size w7 a7 (k+1) c7 xs sl∧∀ j,j<k+1→(sl j).2.1=(xs.getD j default).parts.length)∧Below w.heap.size w w7):=by
    intro a7 c7 w7 hv7 hg7
    rw [HY.out] at hv7
    refine ⟨⟨_,HQ3.out.appended HON.out HAP.out hv7 hg7,fun j hj=>?_⟩,B6.grown hg7 B6.size (fun kx hx=>(HQ3.out.row.lt kx hx).1)⟩
    by_cases e:j=k
    ·simp only [if_pos e]
     rw [e,← HY.out]
     exact HPL.out.symm
    ·simp only [if_neg e]
     exact HCN.out j (by omega)
   have hw3s:w.heap.size≤w3.heap.size:=B3.size
   have HW3:Hid (_=_):=hw3
   have HX3:Hid (_=_):=hx3
   clear ho2 hb2 hb03 t3 B3 hal hps hcn HO hw3 hx2 hx3 ho3 HB01 HX1 e0 hs1 B6
   go_upto_region 7 with fail
   rw [← HW3.out]
   clear HW3 f0 fz
   have g0:w3.cell? ⟨wr.heap.size,0,none⟩=some (.slice a2 n1 cc2):=qk HX3.out rfl
   have g1:w3.cell? ⟨wr.heap.size,1,none⟩=some (.int .i64 y.ser):=qk HX3.out rfl
   have g2:w3.cell? ⟨wr.heap.size,2,none⟩=some (.int .i64 y.tm):=qk HX3.out rfl
   have g3:w3.cell? ⟨wr.heap.size,3,none⟩=some (.int .i64 y.rs):=qk HX3.out rfl
   go_wp2_with (at_builtin; refine wpList_append_own _ rfl (.tmp 21) (.tmp 23) 36 rfl w.heap.size 74 i0 _ 4 48 Tryz.underlying36 hi hz0 hz1 hz2 rfl (by decide) _ k _ rfl HQ3.out.row ⟨w3.heap.size,0,none⟩ 1 1 [.slice a2 n1 cc2,.int .i64 y.ser,.int .i64 y.tm,.int .i64 y.rs] rfl rfl (World.news_of_block (heap_alloc_new w3 (.cells #[.slice a2 n1 cc2,.int .i64 y.ser,.int .i64 y.tm,.int .i64 y.rs] 74))) (by intro u hu; simp only [List.mem_cons,List.not_mem_nil,or_false] at hu; rcases hu with rfl | rfl | rfl | rfl <;> rfl) (by unfold maxLen; omega) (by omega) (by simp; omega) ?_; intro v7 w7 hv7 hg7 hs7; obtain ⟨g7,c7,rfl⟩:=ownsRow_succG hv7; have HN7:=HAPP.out _ c7 w7 hv7 hg7; have HO7:Hid (_):=HN7.1; have B7:=HN7.2; clear hv7 hg7 hs7 HN7 HAPP HQ3 HON)
   go_roundw
   case rel=>exact ⟨k+1,_,c7,by omega,by go_num,rfl,HO7,B7⟩
   case measure=>simp [intOf]; omega
  ·obtain rfl:k=n:=by omega
   go_wp2
   go_ret
   obtain ⟨sl,h1,h2⟩:=HO.out
   exact ⟨ao,cc,sl,rfl,h1,h2,hbr⟩
open Go.RowKit Go.Sort
theorem l2Leaf_aggC (tag:Int)(a:Option Addr)(n c:Nat)(bs:List Int)(w:World)(h:Row w a n bs)(hc:a=none→c=0)(hn:n≤1000) :
  Calls Tryz.prog 96 #[.int .i64 0,.int .i64 tag,.slice a n c] w fun e w'=>∃ a c,e=.returned (.agg #[.int .i64 0,.int .i64 tag,.bool false,.slice a n c,.slice none 0 0])∧Own (w.heap.size) w' a n c bs∧Below w.heap.size w w':=(l2Leaf_any tag a n c bs w h hc hn).mono fun e w' ⟨a,c,he,ho,hb⟩=>⟨a,c,he,ho.mono (by omega),hb⟩
theorem l9Num_R (n:Int)(L:Nat)(w:World) :
  Calls Tryz.prog 52 #[.int .i64 n] w fun e w'=>ItR L w.heap.size 1 (numI n) e w'∧Below w.heap.size w w':=by
 refine (l9Num_agg n w).mono ?_
 rintro e w1 ⟨a,c,rfl,ho,hb⟩
 exact ⟨⟨_,_,_,_,_,_,rfl,Own.itzB (ho.mono (Nat.le_succ _)) 2 (by have:=wsz_bd n; omega)⟩,hb⟩
theorem l9Bytes_R (a:Option Addr)(n c:Nat)(bs:List Int)(L:Nat)(w:World)(h:Row w a n bs)(hc:a=none→c=0)(hn:n≤1000) :
  Calls Tryz.prog 95 #[.slice a n c] w fun e w'=>ItR L w.heap.size 1 (bytI bs) e w'∧Below w.heap.size w w':=by
 refine (l9Bytes_agg a n c bs w h hc hn).mono ?_
 rintro e w1 ⟨a,c,rfl,ho,hb⟩
 exact ⟨⟨_,_,_,_,_,_,rfl,Own.itzB (ho.mono (Nat.le_succ _)) 4 (by omega)⟩,hb⟩
theorem l9Struct_R {L R d n:Nat}{gr:Nat}{ks:List It}{w:World}(h:KidZ L R w gr d ks)(hn:ks.length=n) :
  Calls Tryz.prog 50 #[.slice (some ⟨gr,0,none⟩) n n] w fun e w'=>ItR L R d (strI ks) e w'∧Below w.heap.size w w':=by
 subst hn
 refine (l9Struct_agg (some ⟨gr,0,none⟩) ks.length ks.length w).mono ?_
 rintro e w1 ⟨rfl,hb⟩
 exact ⟨⟨_,_,_,_,_,_,rfl,(h.kept hb).itz 0 16⟩,hb⟩
theorem l2Box_R {L R d n:Nat}{gr:Nat}{ks:List It}{w:World}(tag:Int)(h:KidZ L R w gr d ks)(hn:ks.length=n) :
  Calls Tryz.prog 54 #[.int .i64 1,.int .i64 tag,.slice (some ⟨gr,0,none⟩) n n] w fun e w'=>ItR L R d (boxI tag ks) e w'∧Below w.heap.size w w':=by
 subst hn
 refine (l2BoxC_agg 1 tag (some ⟨gr,0,none⟩) ks.length ks.length w).mono ?_
 rintro e w1 ⟨rfl,hb⟩
 exact ⟨⟨_,_,_,_,_,_,rfl,(h.kept hb).itz 1 tag⟩,hb⟩
theorem l9List_R {L R d n co:Nat}{ao:Option Addr}{ks:List It}{w:World}(h:ListZ L R d w ao n ks) :
  Calls Tryz.prog 56 #[.slice ao n co] w fun e w'=>ItR L R d (lstI ks) e w'∧Below w.heap.size w w':=by
 refine (l9List_agg ao n co w).mono ?_
 rintro e w1 ⟨rfl,hb⟩
 exact ⟨⟨_,_,_,_,_,_,rfl,(h.kept hb).itz⟩,hb⟩
theorem l9Flag_R (b:Bool)(w:World)(L:Nat)(hL:L≤w.heap.size):Calls Tryz.prog 55 #[.bool b] w fun e w'=>ItR L w.heap.size 1 (flgI b) e w'∧Below w.heap.size w w':=by
 have hbx:=box5_below w
 have hsz:=box5_size w
 have HB5:Hid (_=_):=box5_new w
 cases b
 ·have hbA:Below (box5 w).heap.size (box5 w) ((box5 w).alloc (.cells #[.int .u8 0] 5)):=(Below.refl _ _).alloc (Nat.le_refl _) _
  have HN:Hid (((box5 w).alloc (.cells #[.int .u8 0] 5)).heap[(box5 w).heap.size]? = some (.cells #[.int .u8 0] 5 (0,0))):=heap_alloc_new (box5 w) _
  have hR:Row ((box5 w).alloc (.cells #[.int .u8 0] 5)) (some ⟨w.heap.size+1,0,none⟩) 1 [0]:=by
   refine ⟨rfl,fun k hk=>⟨w.heap.size+1,0,rfl,by simp [hsz],?_⟩,fun k=>?_⟩
   ·obtain rfl:k=0:=by omega
    have:=HN.out
    rw [hsz] at this
    exact (cell_of_row _ _ 0 _ 5 (0,0) this).trans rfl
   ·match k with
    | 0=>decide
    | k+1=>simp
  have HL:Hid (_):=l2Leaf_aggC 1 (some ⟨w.heap.size+1,0,none⟩) 1 1 [0] ((box5 w).alloc (.cells #[.int .u8 0] 5)) hR (fun e=>by cases e) (by decide)
  have HB5b:=below_kept HB5.out hbA
  have hsb:((box5 w).alloc (.cells #[.int .u8 0] 5)).heap.size=w.heap.size+2:=by simp [hsz]
  have hbx2:Below w.heap.size w ((box5 w).alloc (.cells #[.int .u8 0] 5)):=keepT hbx hbA
  have HB6:Hid (_=_):=HB5b
  clear hR HN hbA HB5b
  go_enter Tryz.func55,Tryz.ntmps55
  go_wp2_with fail
  refine Calls.mono HL.out ?_
  rintro e w2 ⟨a,c,rfl,ho,hb2⟩
  have HO:Hid (_):=ho
  have h5:=below_kept HB6.out hb2
  obtain ⟨_,q0,q1,q2,q3,q4,q5,q6,q7,q8,q9⟩:=Box5.of h5
  have H5:Hid (_=_):=h5
  have B2:Below w.heap.size w w2:=keepT hbx2 hb2
  clear h5 hb2 ho HL HB6
  go_wp2_with fail
  try simp only [Exit.inBlock,Exit.then]
  have T:=put5_touch w2 w.heap.size (.int .i64 0) (.int .i64 1) (.bool false) (.slice a 1 c) (.slice none 0 0)
  have hZ:ItZ L (w.heap.size+1) 1 w2 (flgI false) a 1 c none 0 0:=Own.itzB (HO.out.mono (by omega)) 1 (by decide)
  exact bodyPost_ret (results_it rfl _ w.heap.size rfl _ _ _ _ _ _ (put5_heap H5.out _ _ _ _ _)) rfl ⟨⟨_,_,_,_,_,_,rfl,hZ.put hL (by omega) _ _ _ _ _⟩,B2.trans (T.below (Nat.le_refl _) B2.size)⟩
 ·have hbA:Below (box5 w).heap.size (box5 w) ((box5 w).alloc (.cells #[.int .u8 255] 5)):=(Below.refl _ _).alloc (Nat.le_refl _) _
  have HN:Hid (((box5 w).alloc (.cells #[.int .u8 255] 5)).heap[(box5 w).heap.size]? = some (.cells #[.int .u8 255] 5 (0,0))):=heap_alloc_new (box5 w) _
  have hR:Row ((box5 w).alloc (.cells #[.int .u8 255] 5)) (some ⟨w.heap.size+1,0,none⟩) 1 [255]:=by
   refine ⟨rfl,fun k hk=>⟨w.heap.size+1,0,rfl,by simp [hsz],?_⟩,fun k=>?_⟩
   ·obtain rfl:k=0:=by omega
    have:=HN.out
    rw [hsz] at this
    exact (cell_of_row _ _ 0 _ 5 (0,0) this).trans rfl
   ·match k with
    | 0=>decide
    | k+1=>simp
  have HL:Hid (_):=l2Leaf_aggC 1 (some ⟨w.heap.size+1,0,none⟩) 1 1 [255] ((box5 w).alloc (.cells #[.int .u8 255] 5)) hR (fun e=>by cases e) (by decide)
  have HB5b:=below_kept HB5.out hbA
  have hsb:((box5 w).alloc (.cells #[.int .u8 255] 5)).heap.size=w.heap.size+2:=by simp [hsz]
  have hbx2:Below w.heap.size w ((box5 w).alloc (.cells #[.int .u8 255] 5)):=keepT hbx hbA
  have HB6:Hid (_=_):=HB5b
  clear hR HN hbA HB5b
  go_enter Tryz.func55,Tryz.ntmps55
  go_wp2_with fail
  refine Calls.mono HL.out ?_
  rintro e w2 ⟨a,c,rfl,ho,hb2⟩
  have HO:Hid (_):=ho
  have h5:=below_kept HB6.out hb2
  obtain ⟨_,q0,q1,q2,q3,q4,q5,q6,q7,q8,q9⟩:=Box5.of h5
  have H5:Hid (_=_):=h5
  have B2:Below w.heap.size w w2:=keepT hbx2 hb2
  clear h5 hb2 ho HL HB6
  go_wp2_with fail
  try simp only [Exit.inBlock,Exit.then]
  have T:=put5_touch w2 w.heap.size (.int .i64 0) (.int .i64 1) (.bool false) (.slice a 1 c) (.slice none 0 0)
  have hZ:ItZ L (w.heap.size+1) 1 w2 (flgI true) a 1 c none 0 0:=Own.itzB (HO.out.mono (by omega)) 1 (by decide)
  exact bodyPost_ret (results_it rfl _ w.heap.size rfl _ _ _ _ _ _ (put5_heap H5.out _ _ _ _ _)) rfl ⟨⟨_,_,_,_,_,_,rfl,hZ.put hL (by omega) _ _ _ _ _⟩,B2.trans (T.below (Nat.le_refl _) B2.size)⟩
theorem opw_convert {P:Program}{Q:Exit→Act→World→Prop}{o:Oper}{a:Act}{w w':World}{K:Act→World→Prop}(t1 t2 x:Nat)(ho:o.op=.convert t1 t2 (.tmp x))(p v:Value)(hx:aT a x=p)(hr:(convert t1 t2 p).run P w=.ok v w')(h:K (a.put o.dst v) w'):o.wp P a w K Q:=by
 refine opw_value v ?_ h
 have hx':a.eval (.tmp x)=p:=hx
 unfold execOp
 simp only [ho]
 rw [hx']
 simp [hr]
structure RowQ (Q:Nat)(w:World)(g n:Nat)(bs:List Int):Prop where
 row:Row w (some ⟨g,0,none⟩) n bs
 ge:Q≤g
theorem RowQ.kept {Q:Nat}{w w':World}{g n:Nat}{bs:List Int}(h:RowQ Q w g n bs)(hb:Below w.heap.size w w'):RowQ Q w' g n bs:=⟨h.row.kept hb,h.ge⟩
theorem RowQ.grown {Q:Nat}{w w':World}{g n:Nat}{bs:List Int}{row:Option Nat}{L:Nat}(h:RowQ Q w g n bs)(hg:w.grownBy w' row)(hlt:∀ j,row=some j→L≤j∧j<Q):RowQ Q w' g n bs :=
 ⟨(h.row.atG.touch (P:=fun k=>row=some k) (fun k hk e=>by have:=hlt k e; have:=h.ge; omega) (touchX_g hg (fun k hk=>hk))).row,h.ge⟩
theorem ownItZ_empty (d L:Nat)(w:World):OwnItZ d L w.heap.size (w.alloc (.cells #[] 94)) (some ⟨w.heap.size,0,none⟩) 0 0 []:=by
 have hrow:(w.alloc (.cells #[] 94)).ownsRow 0 94 5 (.slice (some ⟨w.heap.size,0,none⟩) 0 0) 0 []:=⟨rfl,.inr ⟨w.heap.size,0,#[],rfl,Nat.zero_le _,heap_alloc_new w _,Nat.le_refl _,by decide,rfl,rfl⟩⟩
 exact ⟨⟨rfl,by decide,⟨[],hrow,fun k hk=>absurd hk (Nat.not_lt_zero _)⟩,fun b hb hc=>hc.2.2 hb⟩,fun b hb=>Nat.le_of_eq (by injection hb)⟩
theorem indexPart (bq oq n c kq:Nat)(W:World)(h:kq<n):(Instr.indexAt 33 (.slice (some ⟨bq,oq,none⟩) n c) (.int .i64 (kq:Int))).run Tryz.prog W=.ok (.pointer (some ⟨bq,oq+kq * 2,none⟩)) W:=by
 refine (run_indexAt_slice (P:=Tryz.prog) (w:=W) 33 ⟨bq,oq,none⟩ n c .i64 (kq:Int) (by kernel_rfl)).trans ?_
 rw [if_pos ⟨by omega,by omega⟩]
 have hs:(sizeOf (Tryz.prog.elem 33)).run Tryz.prog W=.ok 2 W:=by kernel_rfl
 rw [hs]
 simp [Result.andThen,Addr.add_lit]
open Go.RowKit
theorem implCrlOk_any (a1 : Option Addr) (n1 c1 : Nat) (a2 : Option Addr) (n2 c2 : Nat) (a3 : Option Addr) (n3 c3 : Nat) (x : CP) (w : World) (htab : Lib.TabIs Tryz.prog w "internal/strconv.uint64pow10" .u64 Lib.pow10Tab) (h : Crs w a1 n1 a2 n2 a3 n3 x) (hz : CpOk n1 n2 n3 x) (hsc : -9223372036854775808 ≤ x.scope ∧ x.scope ≤ 9223372036854775807) :
  Calls Tryz.prog 23 #[crv a1 n1 c1 a2 n2 c2 a3 n3 c3 x] w (Says (crlP x) w):=by
 have HK:Hid (Crs w a1 n1 a2 n2 a3 n3 x):=h
 have HZ:Hid (CpOk n1 n2 n3 x):=hz
 have HLE:Hid (x.ents.length=n2):=h.en.len
 have HLS:Hid (x.sig.length=n3):=h.sg.len
 have hEO:∀ W,Below w.heap.size w W→-1≤x.base→2≤x.scope→x.scope≤126→timeP x.tm→Calls Tryz.prog 63 #[crv a1 n1 c1 a2 n2 c2 a3 n3 c3 x] W (Says (n2≤60∧(∀ k,k<n2→entP x (x.ents.getD k default))∧Maps.size (Sn x.ents n2)=n2) W):=fun W hW z1 z2 z3 z4=>entriesOk_any a1 n1 c1 a2 n2 c2 a3 n3 c3 x W (Lib.tabBelow_of_tabIs htab W hW) (h.en.kept hW) hz.2.2.2.1 z1 z2 z3 z4
 have HEO:Hid (∀ W,Below w.heap.size w W→-1≤x.base→2≤x.scope→x.scope≤126→timeP x.tm→Calls Tryz.prog 63 #[.agg #[.slice a1 n1 c1,.int .i64 x.num,.int .i64 x.base,.int .i64 x.tm,.int .i64 x.next,.int .i64 x.scope,.bool x.ind,.slice a2 n2 c2,.slice a3 n3 c3]] W (Says (n2≤60∧(∀ k,k<n2→entP x (x.ents.getD k default))∧Maps.size (Sn x.ents n2)=n2) W)):=hEO
 clear h hz htab hEO
 unfold crv
 obtain ⟨w0,hw0⟩:∃ w0,w0=w.alloc (.cells #[.slice a1 n1 c1,.int .i64 x.num,.int .i64 x.base,.int .i64 x.tm,.int .i64 x.next,.int .i64 x.scope,.bool x.ind,.slice a2 n2 c2,.slice a3 n3 c3] 38):=⟨_,rfl⟩
 have B0:Hid (Below w.heap.size w w0):=by show Below w.heap.size w w0; rw [hw0]; exact (Below.refl _ _).alloc (Nat.le_refl _) _
 have hh0:w0.heap[w.heap.size]? = some (.cells #[.slice a1 n1 c1,.int .i64 x.num,.int .i64 x.base,.int .i64 x.tm,.int .i64 x.next,.int .i64 x.scope,.bool x.ind,.slice a2 n2 c2,.slice a3 n3 c3] 38):=by rw [hw0]; exact heap_alloc_new w _
 have Y0:Hid (w0.heap[w.heap.size]? = some (.cells #[.slice a1 n1 c1,.int .i64 x.num,.int .i64 x.base,.int .i64 x.tm,.int .i64 x.next,.int .i64 x.scope,.bool x.ind,.slice a2 n2 c2,.slice a3 n3 c3] 38)):=hh0
 have l0:w.heap.size<w0.heap.size:=(Array.getElem?_eq_some_iff.1 hh0).1
 have p0:w0.cell? ⟨w.heap.size,0,none⟩=some (.slice a1 n1 c1):=qk hh0 rfl
 clear hh0
 go_enter Tryz.func23,Tryz.ntmps23
 go_upto_region 1 with fail
 rw [← hw0]
 clear hw0
 go_wp2_with fail
 refine (someName_any a1 n1 c1 x.parts _ (HK.out.kept B0.out).nm HZ.out.2.1).mono ?_
 rintro e w1 ⟨v1,rfl,hv1,hb1⟩
 have B1:Hid (Below w.heap.size w w1):=B0.out.trans (hb1.mono B0.out.size)
 have y0:w1.heap[w.heap.size]? = some (.cells #[.slice a1 n1 c1,.int .i64 x.num,.int .i64 x.base,.int .i64 x.tm,.int .i64 x.next,.int .i64 x.scope,.bool x.ind,.slice a2 n2 c2,.slice a3 n3 c3] 38):=(hb1.block _ l0).trans Y0.out
 clear p0
 have p0:w1.cell? ⟨w.heap.size,0,none⟩=some (.slice a1 n1 c1):=qk y0 rfl
 have p1:w1.cell? ⟨w.heap.size,1,none⟩=some (.int .i64 x.num):=qk y0 rfl
 have p2:w1.cell? ⟨w.heap.size,2,none⟩=some (.int .i64 x.base):=qk y0 rfl
 have p3:w1.cell? ⟨w.heap.size,3,none⟩=some (.int .i64 x.tm):=qk y0 rfl
 have p4:w1.cell? ⟨w.heap.size,4,none⟩=some (.int .i64 x.next):=qk y0 rfl
 have p5:w1.cell? ⟨w.heap.size,5,none⟩=some (.int .i64 x.scope):=qk y0 rfl
 have p6:w1.cell? ⟨w.heap.size,6,none⟩=some (.bool x.ind):=qk y0 rfl
 have p7:w1.cell? ⟨w.heap.size,7,none⟩=some (.slice a2 n2 c2):=qk y0 rfl
 have p8:w1.cell? ⟨w.heap.size,8,none⟩=some (.slice a3 n3 c3):=qk y0 rfl
 clear hb1 y0 B0 Y0 l0
 have HV1:Hid _:=hv1
 clear hv1
 rcases v1 with _ | _
 ·have HN:Hid (¬ crlP x):=fun q=>by have:=HV1.out.2 q.1.1; simp at this
  go_wp2
  go_ret
  exact says_f HN.out B1.out
 have HCA:Hid (calledP x.parts):=HV1.out.1 rfl
 clear HV1
 go_wp2_with fail
 by_cases q2:0≤x.num∧x.num≤1099511627776
 case neg =>
  refine (inBounds_any x.num 0 1099511627776 _).mono ?_
  rintro e w9 ⟨rfl,hw9⟩
  subst hw9
  rw [decide_eq_false q2]
  have HN:Hid (¬ crlP x):=fun q=>q2 q.1.2.1
  clear q2
  go_wp2
  go_ret
  exact says_f HN.out B1.out
 refine (inBounds_any x.num 0 1099511627776 _).mono ?_
 rintro e w9 ⟨rfl,hw9⟩
 subst hw9
 rw [decide_eq_true q2]
 have Hq2:Hid (0≤x.num∧x.num≤1099511627776):=q2
 clear q2
 have hwr:IntKind.i64.wrap (x.num - 1)=x.num - 1:=wrap_i64 _ (by have:=Hq2.out.1; omega) (by have:=Hq2.out.2; omega)
 go_wp2_with fail
 by_cases q3 : -1≤x.base∧x.base≤x.num - 1
 case neg =>
  refine (inBounds_any x.base (-1) (x.num - 1) _).mono ?_
  rintro e w9 ⟨rfl,hw9⟩
  subst hw9
  rw [decide_eq_false q3]
  have HN:Hid (¬ crlP x):=fun q=>q3 q.1.2.2.1
  clear q3
  go_wp2
  go_ret
  exact says_f HN.out B1.out
 refine (inBounds_any x.base (-1) (x.num - 1) _).mono ?_
 rintro e w9 ⟨rfl,hw9⟩
 subst hw9
 rw [decide_eq_true q3]
 have Hq3:Hid (-1≤x.base∧x.base≤x.num - 1):=q3
 clear q3
 go_wp2_with fail
 by_cases q4:(0≤x.tm∧x.tm≤253402300799)∧(0≤x.next∧x.next≤253402300799)∧x.tm≤x.next
 case neg =>
  refine (spanOk_any x.tm x.next _).mono ?_
  rintro e w9 ⟨rfl,hw9⟩
  subst hw9
  rw [decide_eq_false q4]
  have HN:Hid (¬ crlP x):=fun q=>q4 ⟨q.1.2.2.2.1,q.1.2.2.2.2.1,q.1.2.2.2.2.2.1⟩
  clear q4
  go_wp2
  go_ret
  exact says_f HN.out B1.out
 refine (spanOk_any x.tm x.next _).mono ?_
 rintro e w9 ⟨rfl,hw9⟩
 subst hw9
 rw [decide_eq_true q4]
 have Hq4:Hid ((0≤x.tm∧x.tm≤253402300799)∧(0≤x.next∧x.next≤253402300799)∧x.tm≤x.next):=q4
 clear q4
 go_wp2_with fail
 by_cases q5:2≤x.scope∧x.scope≤126∧x.scope % 2=0
 case neg =>
  refine (scopeOk_any x.scope _ hsc.1 hsc.2).mono ?_
  rintro e w9 ⟨rfl,hw9⟩
  subst hw9
  rw [decide_eq_false q5]
  have HN:Hid (¬ crlP x):=fun q=>q5 q.1.2.2.2.2.2.2.1
  clear q5
  go_wp2
  go_ret
  exact says_f HN.out B1.out
 refine (scopeOk_any x.scope _ hsc.1 hsc.2).mono ?_
 rintro e w9 ⟨rfl,hw9⟩
 subst hw9
 rw [decide_eq_true q5]
 have Hq5:Hid (2≤x.scope∧x.scope≤126∧x.scope % 2=0):=q5
 clear q5
 by_cases c6:(n3:Int)≤500
 case neg =>
  have HN:Hid (¬ crlP x):=fun q=>by have:=q.1.2.2.2.2.2.2.2.2; rw [HLS.out] at this; omega
  go_wp2
  go_ret
  exact says_f HN.out B1.out
 go_wp2_with fail
 refine (HEO.out _ B1.out Hq3.out.1 Hq5.out.1 Hq5.out.2.1 Hq4.out.1).mono ?_
 rintro e w2 ⟨v2,rfl,hv2,hb2⟩
 have HV2:Hid _:=hv2
 have HC6:Hid ((n3:Int)≤500):=c6
 have B2:Hid (Below w.heap.size w w2):=B1.out.trans (hb2.mono B1.out.size)
 clear p0 p1 p2 p3 p4 p5 p6 p7 p8 hv2 hb2 c6
 have HIF:Hid (v2=true↔crlP x):=by
  show _↔_
  constructor
  ·intro q
   have r:=HV2.out.1 q
   refine ⟨⟨HCA.out,Hq2.out,Hq3.out,Hq4.out.1,Hq4.out.2.1,Hq4.out.2.2,Hq5.out,by rw [HLE.out]; exact r.1,by rw [HLS.out]; have:=HC6.out; omega⟩,by rw [HLE.out]; exact r.2.1,fun i k hi hk=>?_⟩
   exact (Sn_size x x.ents n2 HLE.out r.2.1).1 r.2.2 i k (by rw [← HLE.out]; exact hi) hk
  ·intro q
   refine HV2.out.2 ⟨by rw [← HLE.out]; exact q.1.2.2.2.2.2.2.2.1,by rw [← HLE.out]; exact q.2.1,?_⟩
   exact (Sn_size x x.ents n2 HLE.out (by rw [← HLE.out]; exact q.2.1)).2 (fun i k hi hk=>q.2.2 i k (by rw [HLE.out]; exact hi) hk)
 go_wp2
 go_ret
 exact ⟨v2,rfl,HIF.out,B2.out⟩
end Go.Proofs.YtnmplldhdfingaaGreatDoor
