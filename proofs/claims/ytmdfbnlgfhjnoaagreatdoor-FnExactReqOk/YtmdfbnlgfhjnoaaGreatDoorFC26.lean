import Derived.Deep.RegionHeld3
import Derived.Lib.QuietBelow
import Derived.ArgAppend
import Derived.Test.YtmdfbnlgfhjnoaaGreatDoorFC07
import Derived.Test.YtmdfbnlgfhjnoaaGreatDoorFC25
set_option maxRecDepth 10000
set_option maxHeartbeats 8000000
set_option linter.unusedVariables false
namespace Go.Proofs.YtmdfbnlgfhjnoaaGreatDoor
open Go.RowKit
theorem stab_ge {B g n:Nat}{xs:List GE}(hB:B≤g):Stab B (fun W=>GePre W g n xs):=fun W W' e s h j hj=>by
 obtain ⟨gn,nn,h1,h3,h4⟩:=h j hj
 have hlt:g<W.heap.size:=World.block_lt_of_cell? W _ h3.c0
 exact ⟨gn,nn,h1,h3.of (fun i=>by simp [World.cell?,e g hB hlt]),pts_move (by omega) W W' e s h4⟩
open Go.RowKit
theorem implItemBytes_any (d:Nat)(x:It)(ab:Option Addr)(nb cb:Nat)(ak:Option Addr)(nk ck:Nat)(w:World)(hrow:Row w ab nb x.body)(hnil:ab=none→cb=0)(hnb:nb≤9223372036854775807)(hk:Kids d w ak nk x.kids) :
  Calls Tryz.prog 45 #[itv x ab nb cb ak nk ck] w fun e w'=>AnsI w.heap.size (enc 12 x) e w'∧Below w.heap.size w w':=by
 have hbl:Below w.heap.size w (w.alloc (.cells #[.int .i64 x.cls,.int .i64 x.tag,.bool x.cons,.slice ab nb cb,.slice ak nk ck] 75)):=(Below.refl _ _).alloc (Nat.le_refl _) _
 have HS:Hid (_):=bytesAt_all d 12 1 x ab nb cb ak nk ck _ (by decide) (by decide) (hrow.kept hbl) hnil hnb (hk.kept hbl)
 clear hrow hk hnb hnil
 unfold itv
 go_enter Tryz.func45,Tryz.ntmps45
 go_wp2_with fail
 refine Calls.mono HS.out ?_
 rintro e w1 ⟨hans,hb1⟩
 have hb1':Below w.heap.size w w1:=hbl.trans (hb1.mono hbl.size)
 clear hb1
 rcases hans with ⟨a2,n2,c2,bs2,rfl,he2,ho2⟩ | ⟨rfl,he2⟩
 ·have HO:Hid (Own w.heap.size w1 a2 n2 c2 bs2):=ho2.mono hbl.size
  clear ho2
  go_wp2
  go_ret2
  exact ⟨.inl ⟨a2,n2,c2,bs2,rfl,he2,HO⟩,hb1'⟩
 ·go_wp2
  go_ret2
  exact ⟨.inr ⟨rfl,he2⟩,hb1'⟩
theorem numberItem_agg (n:Int)(w:World)(h0 : -9223372036854775808≤n)(h1:n≤9223372036854775807) :
  Calls Tryz.prog 101 #[.int .i64 n] w fun e w'=>∃ g k,e=.returned (.agg #[.int .i64 0,.int .i64 2,.bool false,.slice (some ⟨g,k,none⟩) (wsz n) (wsz n),.slice none 0 0])∧w.heap.size≤g∧Row w' (some ⟨g,k,none⟩) (wsz n) (wbL n)∧Below w.heap.size w w':=numberItem_any n w h0 h1
theorem digestItem_agg (v:Int)(w:World)(h0:0≤v)(h1:v≤18446744073709551615) :
  Calls Tryz.prog 155 #[.int .u64 v] w fun e w'=>∃ g,e=.returned (.agg #[.int .i64 0,.int .i64 4,.bool false,.slice (some ⟨g,0,none⟩) 8 8,.slice none 0 0])∧w.heap.size≤g∧Row w' (some ⟨g,0,none⟩) 8 (eightI v)∧Below w.heap.size w w':=digestItem_any v w h0 h1
theorem ownItem_agg (tag:Int)(a:Option Addr)(n c:Nat)(w:World) :
  Calls Tryz.prog 59 #[.int .i64 tag,.slice a n c] w fun e w'=>e=.returned (.agg #[.int .i64 1,.int .i64 tag,.bool true,.slice none 0 0,.slice a n c])∧Below w.heap.size w w':=ownItem_any tag a n c [] w
theorem l9Num_agg (n:Int)(w:World):Calls Tryz.prog 81 #[.int .i64 n] w fun e w'=>∃ a c,e=.returned (.agg #[.int .i64 0,.int .i64 2,.bool false,.slice a (wsz n) c,.slice none 0 0])∧Own (w.heap.size+1) w' a (wsz n) c (wbL n)∧Below w.heap.size w w':=l9Num_any n w
theorem l9Bytes_agg (a:Option Addr)(n c:Nat)(bs:List Int)(w:World)(h:Row w a n bs)(hc:a=none→c=0)(hn:n≤1000):Calls Tryz.prog 83 #[.slice a n c] w fun e w'=>∃ a c,e=.returned (.agg #[.int .i64 0,.int .i64 4,.bool false,.slice a n c,.slice none 0 0])∧Own (w.heap.size+1) w' a n c bs∧Below w.heap.size w w':=l9Bytes_any a n c bs w h hc hn
open Go.RowKit
structure RowI (S:Nat→Prop)(w:World)(a:Option Addr)(n:Nat)(bs:List Int):Prop where
 row:Row w a n bs
 lt:∀ x,a=some x→0<n→S x.block
theorem RowI.touch {S P:Nat→Prop}{w w':World}{a:Option Addr}{n:Nat}{bs:List Int}(h:RowI S w a n bs)(hd:∀ k,S k→¬ P k)(ht:TouchX P w w'):RowI S w' a n bs:=by
 refine ⟨⟨h.row.len,fun k hk=>?_,h.row.byte⟩,h.lt⟩
 obtain ⟨b,off,ha,hlt,hc⟩:=h.row.get k hk
 have hb:=ht.block b hlt (hd b (h.lt _ ha (by omega)))
 exact ⟨b,off,ha,Nat.lt_of_lt_of_le hlt ht.size,(World.cell?_of_block (a:=⟨b,off+k,none⟩) hb).trans hc⟩
theorem RowI.mono {S T:Nat→Prop}{w:World}{a:Option Addr}{n:Nat}{bs:List Int}(h:RowI S w a n bs)(hs:∀ k,S k→T k):RowI T w a n bs:=⟨h.row,fun x hx h0=>hs _ (h.lt x hx h0)⟩
theorem Own.toI {B:Nat}{w:World}{a:Option Addr}{n c:Nat}{bs:List Int}(h:Own B w a n c bs):RowI (fun b=>B≤b∧b<w.heap.size) w a n bs:=⟨h.toRow,fun x hx h0=>by
 have:=h.row.lt x.block (by rw [hx]; rfl)
 exact ⟨this.1,this.2⟩⟩
def KidsI:Nat→(Nat→Prop)→World→Option Addr→Nat→List It→Prop
 | 0,_,_,_,_,_=>False
 | d+1,S,w,a,n,xs=>xs.length=n∧n≤9223372036854775807∧∀ k,k<n→∃ b off,a=some ⟨b,off,none⟩∧b<w.heap.size∧S b∧∃ ab nb cb ak nk ck,
   w.cell? ⟨b,off+k * 5,none⟩=some (.int .i64 (xs.getD k default).cls)∧w.cell? ⟨b,off+k * 5+1,none⟩=some (.int .i64 (xs.getD k default).tag)∧w.cell? ⟨b,off+k * 5+2,none⟩=some (.bool (xs.getD k default).cons)
   ∧ w.cell? ⟨b,off+k * 5+3,none⟩=some (.slice ab nb cb)∧w.cell? ⟨b,off+k * 5+4,none⟩=some (.slice ak nk ck)
   ∧ RowI S w ab nb (xs.getD k default).body∧(ab=none→cb=0)∧nb≤9223372036854775807∧KidsI d S w ak nk (xs.getD k default).kids
theorem KidsI.kids {d:Nat}:∀ {S:Nat→Prop} {w:World} {a:Option Addr} {n:Nat} {xs:List It},KidsI d S w a n xs→Kids d w a n xs:=by
 induction d with
 | zero=>intro _ _ _ _ _ h; exact h.elim
 | succ d ih =>
  intro S w a n xs h
  refine ⟨h.1,h.2.1,fun k hk=>?_⟩
  obtain ⟨b,off,ha,hlt,_,ab,nb,cb,ak,nk,ck,c0,c1,c2,c3,c4,hr,hn,hm,hk⟩:=h.2.2 k hk
  exact ⟨b,off,ha,hlt,ab,nb,cb,ak,nk,ck,c0,c1,c2,c3,c4,hr.row,hn,hm,ih hk⟩
theorem KidsI.mono {d:Nat}:∀ {S T:Nat→Prop} {w:World} {a:Option Addr} {n:Nat} {xs:List It},KidsI d S w a n xs→(∀ k,S k→T k)→KidsI d T w a n xs:=by
 induction d with
 | zero=>intro _ _ _ _ _ _ h; exact h.elim
 | succ d ih =>
  intro S T w a n xs h hs
  refine ⟨h.1,h.2.1,fun k hk=>?_⟩
  obtain ⟨b,off,ha,hlt,hS,ab,nb,cb,ak,nk,ck,c0,c1,c2,c3,c4,hr,hn,hm,hk⟩:=h.2.2 k hk
  exact ⟨b,off,ha,hlt,hs b hS,ab,nb,cb,ak,nk,ck,c0,c1,c2,c3,c4,hr.mono hs,hn,hm,ih hk hs⟩
theorem KidsI.more {d:Nat}:∀ {S:Nat→Prop} {w:World} {a:Option Addr} {n:Nat} {xs:List It},KidsI d S w a n xs→KidsI (d+1) S w a n xs:=by
 induction d with
 | zero=>intro _ _ _ _ _ h; exact h.elim
 | succ d ih =>
  intro S w a n xs h
  refine ⟨h.1,h.2.1,fun k hk=>?_⟩
  obtain ⟨b,off,ha,hlt,hS,ab,nb,cb,ak,nk,ck,c0,c1,c2,c3,c4,hr,hn,hm,hk⟩:=h.2.2 k hk
  exact ⟨b,off,ha,hlt,hS,ab,nb,cb,ak,nk,ck,c0,c1,c2,c3,c4,hr,hn,hm,ih hk⟩
theorem KidsI.touch {d:Nat}:∀ {S P:Nat→Prop} {w w':World} {a:Option Addr} {n:Nat} {xs:List It},KidsI d S w a n xs→(∀ k,S k→¬ P k)→TouchX P w w'→KidsI d S w' a n xs:=by
 induction d with
 | zero=>intro _ _ _ _ _ _ _ h; exact h.elim
 | succ d ih =>
  intro S P w w' a n xs h hd ht
  refine ⟨h.1,h.2.1,fun k hk=>?_⟩
  obtain ⟨b,off,ha,hlt,hS,ab,nb,cb,ak,nk,ck,c0,c1,c2,c3,c4,hr,hn,hm,hk⟩:=h.2.2 k hk
  have cc:∀ j,w'.cell? ⟨b,j,none⟩=w.cell? ⟨b,j,none⟩:=fun j=>World.cell?_of_block (a:=⟨b,j,none⟩) (ht.block b hlt (hd b hS))
  exact ⟨b,off,ha,Nat.lt_of_lt_of_le hlt ht.size,hS,ab,nb,cb,ak,nk,ck,(cc _).trans c0,(cc _).trans c1,(cc _).trans c2,(cc _).trans c3,(cc _).trans c4,hr.touch hd ht,hn,hm,ih hk hd ht⟩
theorem KidsI.none (d:Nat)(S:Nat→Prop)(w:World)(a:Option Addr):KidsI (d+1) S w a 0 []:=⟨rfl,by decide,fun k hk=>absurd hk (Nat.not_lt_zero _)⟩
structure ItV (d:Nat)(S:Nat→Prop)(w:World)(x:It)(ab:Option Addr)(nb cb:Nat)(ak:Option Addr)(nk ck:Nat):Prop where
 row:RowI S w ab nb x.body
 nil:ab=none→cb=0
 max:nb≤9223372036854775807
 kids:KidsI d S w ak nk x.kids
theorem ItV.touch {d:Nat}{S P:Nat→Prop}{w w':World}{x:It}{ab:Option Addr}{nb cb:Nat}{ak:Option Addr}{nk ck:Nat}(h:ItV d S w x ab nb cb ak nk ck)(hd:∀ k,S k→¬ P k)(ht:TouchX P w w'):ItV d S w' x ab nb cb ak nk ck:=⟨h.row.touch hd ht,h.nil,h.max,h.kids.touch hd ht⟩
theorem ItV.kept {d:Nat}{S:Nat→Prop}{w w':World}{x:It}{ab:Option Addr}{nb cb:Nat}{ak:Option Addr}{nk ck:Nat}(h:ItV d S w x ab nb cb ak nk ck)(hb:Below w.heap.size w w'):ItV d S w' x ab nb cb ak nk ck:=h.touch (P:=fun _=>False) (fun _ _ h=>h) (TouchX.of_below hb)
theorem ItV.mono {d:Nat}{S T:Nat→Prop}{w:World}{x:It}{ab:Option Addr}{nb cb:Nat}{ak:Option Addr}{nk ck:Nat}(h:ItV d S w x ab nb cb ak nk ck)(hs:∀ k,S k→T k):ItV d T w x ab nb cb ak nk ck:=⟨h.row.mono hs,h.nil,h.max,h.kids.mono hs⟩
theorem ItV.more {d:Nat}{S:Nat→Prop}{w:World}{x:It}{ab:Option Addr}{nb cb:Nat}{ak:Option Addr}{nk ck:Nat}(h:ItV d S w x ab nb cb ak nk ck):ItV (d+1) S w x ab nb cb ak nk ck:=⟨h.row,h.nil,h.max,h.kids.more⟩
def itc (x:It)(ab:Option Addr)(nb cb:Nat)(ak:Option Addr)(nk ck:Nat):List Value:=[.int .i64 x.cls,.int .i64 x.tag,.bool x.cons,.slice ab nb cb,.slice ak nk ck]
structure OwnIts (d:Nat)(S:Nat→Prop)(w:World)(a:Option Addr)(n c:Nat)(xs:List It):Prop where
 len:xs.length=n
 max:n≤9223372036854775807
 own:∃ vs,w.ownsRow 0 75 5 (.slice a n c) n vs∧∀ k,k<n→∃ ab nb cb ak nk ck,(∀ j,j<5→vs[k * 5+j]? = (itc (xs.getD k default) ab nb cb ak nk ck)[j]?)∧ItV d S w (xs.getD k default) ab nb cb ak nk ck
 ap:∀ b,(Value.slice a n c).ownBlock=some b→¬ S b
theorem OwnIts.nil (d:Nat)(w:World):OwnIts d (fun _=>False) w none 0 0 []:=⟨rfl,by decide,⟨[],⟨rfl,.inl ⟨rfl,rfl⟩⟩,fun k hk=>absurd hk (Nat.not_lt_zero _)⟩,fun b hb=>by cases hb⟩
theorem OwnIts.touch {d:Nat}{S P:Nat→Prop}{w w':World}{a:Option Addr}{n c:Nat}{xs:List It}(h:OwnIts d S w a n c xs)(hd:∀ k,S k→¬ P k)(hr:∀ b,(Value.slice a n c).ownBlock=some b→¬ P b)(ht:TouchX P w w'):OwnIts d S w' a n c xs:=by
 obtain ⟨h0,h1,⟨vs,hv,h2⟩,h3⟩:=h
 refine ⟨h0,h1,⟨vs,ownsRow_moveX (S:=fun b=>(Value.slice a n c).ownBlock=some b) hv (fun _ h=>h) hr ht,fun k hk=>?_⟩,h3⟩
 obtain ⟨ab,nb,cb,ak,nk,ck,e,hi⟩:=h2 k hk
 exact ⟨ab,nb,cb,ak,nk,ck,e,hi.touch hd ht⟩
theorem OwnIts.kept {d:Nat}{S:Nat→Prop}{w w':World}{a:Option Addr}{n c:Nat}{xs:List It}(h:OwnIts d S w a n c xs)(hb:Below w.heap.size w w'):OwnIts d S w' a n c xs:=h.touch (P:=fun _=>False) (fun _ _ h=>h) (fun _ _ h=>h) (TouchX.of_below hb)
theorem OwnIts.mono {d:Nat}{S T:Nat→Prop}{w:World}{a:Option Addr}{n c:Nat}{xs:List It}(h:OwnIts d S w a n c xs)(hs:∀ k,S k→T k)(hr:∀ b,(Value.slice a n c).ownBlock=some b→¬ T b):OwnIts d T w a n c xs:=by
 obtain ⟨h0,h1,⟨vs,hv,h2⟩,h3⟩:=h
 refine ⟨h0,h1,⟨vs,hv,fun k hk=>?_⟩,hr⟩
 obtain ⟨ab,nb,cb,ak,nk,ck,e,hi⟩:=h2 k hk
 exact ⟨ab,nb,cb,ak,nk,ck,e,hi.mono hs⟩
theorem OwnIts.kids {d:Nat}{S T:Nat→Prop}{w:World}{a:Option Addr}{n c:Nat}{xs:List It}(h:OwnIts d S w a n c xs)(hs:∀ k,S k→T k)(hr:∀ b,(Value.slice a n c).ownBlock=some b→T b):KidsI (d+1) T w a n xs:=by
 obtain ⟨h0,h1,⟨vs,hv,h2⟩,h3⟩:=h
 refine ⟨h0,h1,fun k hk=>?_⟩
 obtain ⟨ab,nb,cb,ak,nk,ck,e,hi⟩:=h2 k hk
 rcases hv.2 with ⟨_,hn⟩ | ⟨g,cap,cur,hva,_,hh,_⟩
 ·omega
 ·simp only [Value.slice.injEq] at hva
  obtain ⟨rfl,_,rfl⟩:=hva
  have cc:∀ j,j<5→w.cell? ⟨g,0+k * 5+j,none⟩=(itc (xs.getD k default) ab nb cb ak nk ck)[j]?:=fun j hj=>by
   rw [Nat.zero_add,hv.cellAt _ (by omega)]
   exact e j hj
  exact ⟨g,0,rfl,(Array.getElem?_eq_some_iff.1 hh).1,hr g rfl,ab,nb,cb,ak,nk,ck,cc 0 (by omega),cc 1 (by omega),cc 2 (by omega),cc 3 (by omega),cc 4 (by omega),hi.row.mono hs,hi.nil,hi.max,hi.kids.mono hs⟩
theorem getI_last (xs:List It)(y:It):(xs++[y]).getD xs.length default=y:=by simp
theorem getI_more (xs:List It)(y:It)(k:Nat)(h:k<xs.length):(xs++[y]).getD k default=xs.getD k default:=by simp [List.getElem?_append_left h,h]
theorem OwnIts.appended {d:Nat}{S T:Nat→Prop}{w w1:World}{a:Option Addr}{n c:Nat}{xs:List It}{y:It}{ab:Option Addr}{nb cb:Nat}{ak:Option Addr}{nk ck:Nat}{g' c':Nat}
  (h:OwnIts d S w a n c xs) (hy:ItV d T w y ab nb cb ak nk ck) (hs:∀ b,S b→T b) (hr:∀ b,(Value.slice a n c).ownBlock=some b→¬ T b) (hlt:∀ b,T b→b<w.heap.size) (hn:n+1≤9223372036854775807)
  {vs:List Value} (hv0:w.ownsRow 0 75 5 (.slice a n c) n vs) (hv:w1.ownsRow 0 75 5 (.slice (some ⟨g',0,none⟩) (n+1) c') (n+1) (vs++itc y ab nb cb ak nk ck)) (hg:w.grownBy w1 (Value.slice a n c).ownBlock) (hl:(Value.slice a n c).ownBlock=some g'∨g'=w.heap.size):OwnIts d T w1 (some ⟨g',0,none⟩) (n+1) c' (xs++[y]):=by
 obtain ⟨h0,h1,⟨us,hu,h2⟩,h3⟩:=h
 have euv:us=vs:=by
  rcases hu.2 with ⟨h4,h5⟩ | ⟨g1,cap1,cur1,e1,_,hh1,_,_,_,ht1⟩
  ·have q1:=hu.1
   have q2:=hv0.1
   rw [h5] at q1 q2
   exact (List.eq_nil_of_length_eq_zero (by omega)).trans (List.eq_nil_of_length_eq_zero (by omega)).symm
  ·rcases hv0.2 with ⟨h4,h5⟩ | ⟨g2,cap2,cur2,e2,_,hh2,_,_,_,ht2⟩
   ·rw [h4] at e1; cases e1
   ·rw [e1] at e2
    simp only [Value.slice.injEq,Option.some.injEq,Addr.mk.injEq,and_true] at e2
    rw [e2.1] at hh1
    rw [hh1] at hh2
    injection hh2 with hh2
    injection hh2 with hh2
    rw [← ht1,← ht2,hh2]
 subst euv
 have ht:TouchX (fun b=>(Value.slice a n c).ownBlock=some b) w w1:=touchX_g hg (fun k hk=>hk)
 have hd:∀ b,T b→¬ (Value.slice a n c).ownBlock=some b:=fun b hb e=>hr b e hb
 have hul:us.length=n * 5:=hu.1
 refine ⟨by simp [h0],hn,⟨_,hv,fun k hk=>?_⟩,fun b hb hT=>?_⟩
 ·by_cases e:k=n
  ·subst e
   have e2:(xs++[y]).getD k default=y:=by rw [← h0]; exact getI_last xs y
   rw [e2]
   refine ⟨ab,nb,cb,ak,nk,ck,fun j hj=>?_,hy.touch hd ht⟩
   rw [List.getElem?_append_right (by omega)]
   congr 1
   omega
  ·have e2:(xs++[y]).getD k default=xs.getD k default:=getI_more xs y k (by omega)
   rw [e2]
   obtain ⟨ab,nb,cb,ak,nk,ck,e3,hi⟩:=h2 k (by omega)
   refine ⟨ab,nb,cb,ak,nk,ck,fun j hj=>?_,(hi.mono hs).touch hd ht⟩
   rw [List.getElem?_append_left (by omega)]
   exact e3 j hj
 ·have:g'=b:=by injection hb
  rw [← this] at hT
  rcases hl with hl | hl
  ·exact hr g' hl hT
  ·have:=hlt g' hT
   omega
open Go.RowKit
def strI (ks:List It):It:=.mk 0 16 true [] ks
def lstI (ks:List It):It:=.mk 0 17 true [] ks
open Go.RowKit Go.Sort
theorem opw_buildSliceT {P:Program}{Q:Exit→Act→World→Prop}{o:Oper}{a:Act}{w:World}{K:Act→World→Prop}(t:TypeId)(n:Nat)(parts:Array (Nat × Operand))(ho:o.op=.buildSlice t n parts)(vs:Array (Nat × Value))(hvs:(parts.map fun p=>(p.1,a.eval p.2))=vs)(v:Value)(w':World)
  (hr:(Instr.buildSlice t n vs).run P w=.ok v w') (h:K (a.put o.dst v) w'):o.wp P a w K Q:=by
 refine opw_value v ?_ h
 have hvs':(parts.map fun x:Nat × Operand=>match x with | (i,x)=>(i,a.eval x))=vs:=hvs
 unfold execOp
 simp only [ho]
 rw [hvs']
 simp [hr]
theorem Row.atG {w:World}{g k n:Nat}{bs:List Int}(h:Row w (some ⟨g,k,none⟩) n bs):RowI (fun b=>b=g) w (some ⟨g,k,none⟩) n bs:=⟨h,fun x hx _=>by injection hx with hx; rw [← hx]⟩
theorem structItem_agg (a:Option Addr)(n c:Nat)(w:World) :
  Calls Tryz.prog 152 #[.slice a n c] w fun e w'=>e=.returned (.agg #[.int .i64 0,.int .i64 16,.bool true,.slice none 0 0,.slice a n c])∧Below w.heap.size w w':=by
 go_enter Tryz.func152,Tryz.ntmps152
 go_wp2_with fail
 try simp only [Exit.inBlock,Exit.then]
 exact bodyPost_ret (results_it rfl _ w.heap.size rfl _ _ _ _ _ _ (heap_alloc_new w _)) rfl ⟨rfl,(Below.refl _ _).alloc (Nat.le_refl _) _⟩
theorem Tryz.infoIt:(Tryz.prog.info? 75).map (fun i=>(i.zero,i.size,i.bytes))=some (some (.agg #[.int .i64 0,.int .i64 0,.bool false,.slice none 0 0,.slice none 0 0]),5,72):=by kernel_rfl
def RSpec.free2 (S:RSpec)(i d:Nat):Bool:=(List.range S.n).all fun k=>k == i || S.slot k != d || (S.pre k).contains i || (S.kill k).contains i
theorem RSpec.free2_of {S:RSpec}{i d:Nat}(h:S.free2 i d=true){k:Nat}(hk:k<S.n)(hne:k≠i)(hs:S.slot k=d):i∈S.pre k∨i∈S.kill k:=by
 have:=List.all_eq_true.1 h k (List.mem_range.2 hk)
 simpa [hne,hs] using this
theorem RI.turn {S:RSpec}{D:List Nat}{B:Nat}{w0:World}{a0:Act}{l:Nat→Bool}{a:Act}{w:World}(h:RI S D B w0 a0 l a w)(i d:Nat){v:Value}{w':World}(hpre:∀ j∈S.pre i,l j=true)
  (hd:D.contains d=true) (hs:d<a0.tmps.size) (hsl:S.slot i=d) (hli:l i=false) (hne:S.free2 i d=true) (hb:Below B w0 w')
  (hst:∀ k,k<S.n→k≠i→l k=true→(∀ j∈S.kill k,upd l i j=false)→∀ u,S.fact k u w→S.fact k u w') (hf:S.fact i v w'):RI S D B w0 a0 (upd l i) (a.put (some d) v) w':=by
 refine ⟨h.fr.put (List.contains_iff_mem.1 hd) v,hb,fun k hk=>upd_mono (h.vt k hk),fun k hk hl j hj=>?_,fun k hk hl hkill=>?_⟩
 ·by_cases e:k=i
  ·subst e
   exact upd_mono (hpre j hj)
  ·rw [upd_ne e] at hl
   exact upd_mono (h.cl k hk hl j hj)
 ·by_cases e:k=i
  ·subst e
   rw [hsl,aT_put_eq (by rw [h.fr.size]; exact hs)]
   exact hf
  ·rw [upd_ne e] at hl
   have hsk:S.slot k≠d:=fun e2=>by
    rcases S.free2_of hne hk e e2 with h1 | h1
    ·have:=h.cl k hk hl i h1
     rw [hli] at this
     cases this
    ·have:=hkill i h1
     rw [upd_same] at this
     cases this
   rw [aT_put_ne (Ne.symm hsk)]
   exact hst k hk e hl hkill _ (h.fact k hk hl (fun j hj=>of_upd (hkill j hj)))
theorem RI.putp {S:RSpec}{D:List Nat}{B:Nat}{w0:World}{a0:Act}{l:Nat→Bool}{a:Act}{w:World}(h:RI S D B w0 a0 l a w)(i d:Nat){v:Value}{w':World}(hpre:∀ j∈S.pre i,l j=true)
  (hd:D.contains d=true) (hs:d<a0.tmps.size) (hsl:S.slot i=d) (hli:l i=false) (hne:S.free2 i d=true) (hB:B≤w0.heap.size)
  (hst:∀ k,k<S.n→StB (S.fact k)) (hb:Below w.heap.size w w') (hf:S.fact i v w'):RI S D B w0 a0 (upd l i) (a.put (some d) v) w' :=
 h.turn i d hpre hd hs hsl hli hne (h.bel.trans (hb.mono (Nat.le_trans hB h.bel.size))) (fun k hk _ _ _ u hu=>hst k hk _ _ _ hu hb) hf
theorem unT {b:Bool}(h:b=true→False):b=false:=by
 cases b with
 | false=>rfl
 | true=>exact (h rfl).elim
theorem opw_indexY {P:Program}{Q:Exit→Act→World→Prop}{o:Oper}{a:Act}{w:World}{K:Act→World→Prop}(t:TypeId)(x y:Nat)(ho:o.op=.indexAddr t (.tmp x) (.tmp y))(p q:Value)(hx:aT a x=p)(hy:aT a y=q)(v:Value)(hr:(Instr.indexAt t p q).run P w=.ok v w)(h:K (a.put o.dst v) w):o.wp P a w K Q:=by
 refine opw_value v ?_ h
 have hx':a.eval (.tmp x)=p:=hx
 have hy':a.eval (.tmp y)=q:=hy
 unfold execOp
 simp [ho,hx',hy',hr]
theorem l2BoxC_agg (cls tag:Int)(a:Option Addr)(n c:Nat)(w:World) :
  Calls Tryz.prog 84 #[.int .i64 cls,.int .i64 tag,.slice a n c] w fun e w'=>e=.returned (.agg #[.int .i64 cls,.int .i64 tag,.bool true,.slice none 0 0,.slice a n c])∧Below w.heap.size w w':=by
 go_enter Tryz.func84,Tryz.ntmps84
 go_wp2_with fail
 try simp only [Exit.inBlock,Exit.then]
 exact bodyPost_ret (results_it rfl _ w.heap.size rfl _ _ _ _ _ _ (heap_alloc_new w _)) rfl ⟨rfl,(Below.refl _ _).alloc (Nat.le_refl _) _⟩
theorem l9Struct_agg (a:Option Addr)(n c:Nat)(w:World) :
  Calls Tryz.prog 80 #[.slice a n c] w fun e w'=>e=.returned (.agg #[.int .i64 0,.int .i64 16,.bool true,.slice none 0 0,.slice a n c])∧Below w.heap.size w w':=by
 have hbx:=box5_below w
 have HB5:Hid (_=_):=box5_new w
 go_enter Tryz.func80,Tryz.ntmps80
 go_wp2_with fail
 refine (l2BoxC_agg 0 16 a n c (box5 w)).mono ?_
 rintro e w2 ⟨rfl,hb2⟩
 have h5:=below_kept HB5.out hb2
 obtain ⟨_,q0,q1,q2,q3,q4,q5,q6,q7,q8,q9⟩:=Box5.of h5
 have H5:Hid (_=_):=h5
 have B2:Below w.heap.size w w2:=keepT hbx hb2
 clear h5 hb2
 go_wp2_with fail
 try simp only [Exit.inBlock,Exit.then]
 have T:=put5_touch w2 w.heap.size (.int .i64 0) (.int .i64 16) (.bool true) (.slice none 0 0) (.slice a n c)
 exact bodyPost_ret (results_it rfl _ w.heap.size rfl _ _ _ _ _ _ (put5_heap H5.out _ _ _ _ _)) rfl ⟨rfl,B2.trans (T.below (Nat.le_refl _) B2.size)⟩
theorem l9List_agg (a:Option Addr)(n c:Nat)(w:World) :
  Calls Tryz.prog 89 #[.slice a n c] w fun e w'=>e=.returned (.agg #[.int .i64 0,.int .i64 17,.bool true,.slice none 0 0,.slice a n c])∧Below w.heap.size w w':=by
 have hbx:=box5_below w
 have HB5:Hid (_=_):=box5_new w
 go_enter Tryz.func89,Tryz.ntmps89
 go_wp2_with fail
 refine (l2BoxC_agg 0 17 a n c (box5 w)).mono ?_
 rintro e w2 ⟨rfl,hb2⟩
 have h5:=below_kept HB5.out hb2
 obtain ⟨_,q0,q1,q2,q3,q4,q5,q6,q7,q8,q9⟩:=Box5.of h5
 have H5:Hid (_=_):=h5
 have B2:Below w.heap.size w w2:=keepT hbx hb2
 clear h5 hb2
 go_wp2_with fail
 try simp only [Exit.inBlock,Exit.then]
 have T:=put5_touch w2 w.heap.size (.int .i64 0) (.int .i64 17) (.bool true) (.slice none 0 0) (.slice a n c)
 exact bodyPost_ret (results_it rfl _ w.heap.size rfl _ _ _ _ _ _ (put5_heap H5.out _ _ _ _ _)) rfl ⟨rfl,B2.trans (T.below (Nat.le_refl _) B2.size)⟩
theorem Own.itv1 {B:Nat}{w:World}{a:Option Addr}{n c:Nat}{bs:List Int}(h:Own B w a n c bs)(t:Int)(hn:n≤9223372036854775807):ItV 1 (fun b=>B≤b∧b<w.heap.size) w (.mk 0 t false bs []) a n c none 0 0:=⟨h.toI,h.nil,hn,KidsI.none 0 _ _ _⟩
theorem kidsI_n2 {d:Nat}{S:Nat→Prop}{X:World}{x1 x2:It}{a1:Option Addr}{n1 c1:Nat}{k1:Option Addr}{m1 e1:Nat}{a2:Option Addr}{n2 c2:Nat}{k2:Option Addr}{m2 e2:Nat}(h1:ItV d S X x1 a1 n1 c1 k1 m1 e1)(h2:ItV d S X x2 a2 n2 c2 k2 m2 e2){T:Nat→Prop}(hs:∀ b,S b→T b)(hT:T X.heap.size){W:World}{t:Nat}(hW:W=X.alloc (.cells #[.int .i64 x1.cls,.int .i64 x1.tag,.bool x1.cons,.slice a1 n1 c1,.slice k1 m1 e1,.int .i64 x2.cls,.int .i64 x2.tag,.bool x2.cons,.slice a2 n2 c2,.slice k2 m2 e2] t)):KidsI (d+1) T W (some ⟨X.heap.size,0,none⟩) 2 [x1,x2]:=by
 subst hW
 have hb:Below X.heap.size X (X.alloc (.cells #[.int .i64 x1.cls,.int .i64 x1.tag,.bool x1.cons,.slice a1 n1 c1,.slice k1 m1 e1,.int .i64 x2.cls,.int .i64 x2.tag,.bool x2.cons,.slice a2 n2 c2,.slice k2 m2 e2] t)):=(Below.refl _ _).alloc (Nat.le_refl _) _
 have hc:=fun j=>cell_of_row _ X.heap.size j _ t (0,0) (heap_alloc_new X (.cells #[.int .i64 x1.cls,.int .i64 x1.tag,.bool x1.cons,.slice a1 n1 c1,.slice k1 m1 e1,.int .i64 x2.cls,.int .i64 x2.tag,.bool x2.cons,.slice a2 n2 c2,.slice k2 m2 e2] t))
 have g1:=(h1.kept hb).mono hs
 have g2:=(h2.kept hb).mono hs
 refine ⟨rfl,by decide,fun k hk=>⟨X.heap.size,0,rfl,by simp,hT,?_⟩⟩
 rcases (show k=0∨k=1 by omega) with rfl | rfl
 ·exact ⟨a1,n1,c1,k1,m1,e1,(hc 0).trans rfl,(hc 1).trans rfl,(hc 2).trans rfl,(hc 3).trans rfl,(hc 4).trans rfl,g1.row,g1.nil,g1.max,g1.kids⟩
 ·exact ⟨a2,n2,c2,k2,m2,e2,(hc 5).trans rfl,(hc 6).trans rfl,(hc 7).trans rfl,(hc 8).trans rfl,(hc 9).trans rfl,g2.row,g2.nil,g2.max,g2.kids⟩
theorem kidsI_n3 {d:Nat}{S:Nat→Prop}{X:World}{x1 x2 x3:It}{a1:Option Addr}{n1 c1:Nat}{k1:Option Addr}{m1 e1:Nat}{a2:Option Addr}{n2 c2:Nat}{k2:Option Addr}{m2 e2:Nat}{a3:Option Addr}{n3 c3:Nat}{k3:Option Addr}{m3 e3:Nat}(h1:ItV d S X x1 a1 n1 c1 k1 m1 e1)(h2:ItV d S X x2 a2 n2 c2 k2 m2 e2)(h3:ItV d S X x3 a3 n3 c3 k3 m3 e3){T:Nat→Prop}(hs:∀ b,S b→T b)(hT:T X.heap.size){W:World}{t:Nat}(hW:W=X.alloc (.cells #[.int .i64 x1.cls,.int .i64 x1.tag,.bool x1.cons,.slice a1 n1 c1,.slice k1 m1 e1,.int .i64 x2.cls,.int .i64 x2.tag,.bool x2.cons,.slice a2 n2 c2,.slice k2 m2 e2,.int .i64 x3.cls,.int .i64 x3.tag,.bool x3.cons,.slice a3 n3 c3,.slice k3 m3 e3] t)):KidsI (d+1) T W (some ⟨X.heap.size,0,none⟩) 3 [x1,x2,x3]:=by
 subst hW
 have hb:Below X.heap.size X (X.alloc (.cells #[.int .i64 x1.cls,.int .i64 x1.tag,.bool x1.cons,.slice a1 n1 c1,.slice k1 m1 e1,.int .i64 x2.cls,.int .i64 x2.tag,.bool x2.cons,.slice a2 n2 c2,.slice k2 m2 e2,.int .i64 x3.cls,.int .i64 x3.tag,.bool x3.cons,.slice a3 n3 c3,.slice k3 m3 e3] t)):=(Below.refl _ _).alloc (Nat.le_refl _) _
 have hc:=fun j=>cell_of_row _ X.heap.size j _ t (0,0) (heap_alloc_new X (.cells #[.int .i64 x1.cls,.int .i64 x1.tag,.bool x1.cons,.slice a1 n1 c1,.slice k1 m1 e1,.int .i64 x2.cls,.int .i64 x2.tag,.bool x2.cons,.slice a2 n2 c2,.slice k2 m2 e2,.int .i64 x3.cls,.int .i64 x3.tag,.bool x3.cons,.slice a3 n3 c3,.slice k3 m3 e3] t))
 have g1:=(h1.kept hb).mono hs
 have g2:=(h2.kept hb).mono hs
 have g3:=(h3.kept hb).mono hs
 refine ⟨rfl,by decide,fun k hk=>⟨X.heap.size,0,rfl,by simp,hT,?_⟩⟩
 rcases (show k=0∨k=1∨k=2 by omega) with rfl | rfl | rfl
 ·exact ⟨a1,n1,c1,k1,m1,e1,(hc 0).trans rfl,(hc 1).trans rfl,(hc 2).trans rfl,(hc 3).trans rfl,(hc 4).trans rfl,g1.row,g1.nil,g1.max,g1.kids⟩
 ·exact ⟨a2,n2,c2,k2,m2,e2,(hc 5).trans rfl,(hc 6).trans rfl,(hc 7).trans rfl,(hc 8).trans rfl,(hc 9).trans rfl,g2.row,g2.nil,g2.max,g2.kids⟩
 ·exact ⟨a3,n3,c3,k3,m3,e3,(hc 10).trans rfl,(hc 11).trans rfl,(hc 12).trans rfl,(hc 13).trans rfl,(hc 14).trans rfl,g3.row,g3.nil,g3.max,g3.kids⟩
def W64 (n:Int):Prop:=-9223372036854775808≤n∧n≤9223372036854775807
structure OwnT (B:Nat)(w:World)(a:Option Addr)(n c:Nat)(bs:List Int):Prop where
 own:Own B w a n c bs
theorem OwnT.kept {B:Nat}{w w':World}{a:Option Addr}{n c:Nat}{bs:List Int}(h:OwnT B w a n c bs)(hb:Below w.heap.size w w'):OwnT B w' a n c bs:=⟨h.own.kept hb⟩
theorem OwnT.touched {B gb:Nat}{w w':World}{a:Option Addr}{n c:Nat}{bs:List Int}(h:OwnT B w a n c bs)(ht:Touch gb (gb+1) w w')(hlt:gb<B):OwnT B w' a n c bs:=⟨h.own.touch5 ht (by omega)⟩
open Go.ChangeShapes Go.WideShapes Go.ChangeAt Go.RowKit
def OpensE (W:World)(y:Option Addr × Nat × Nat × GE)(cs:List Value):Prop:=cs = [.int .i64 y.2.2.2.g.kind,.string y.2.2.2.g.text,.int .i64 y.2.2.2.g.addr,.int .i64 y.2.2.2.g.bits,.slice y.1 y.2.1 y.2.2.1]∧Pts W y.1 y.2.1 y.2.2.2.parts∧y.2.2.2.g.text.size≤9223372036854775807
set_option maxRecDepth 20000 in
theorem open_gens {H:Type}{enc:TypeId × Value→H}{W:World}{fuel:Nat}{cs:List Value}{x:DataW H × List MemPlace}(h:DataW.trod enc Tryz.prog W 0 (fun _=>true) true fuel 28 cs=some x):∃ a n c xs,cs = [.slice a n c]∧Ges W a n xs:=by
 rcases DataW.trod_slice Tryz.underlying28 h with ⟨rfl,_⟩ | ⟨a,len,cap,elems,rest,n,rfl,rfl,_,_,hl,hm,hlen,hel,_,_⟩
 ·exact ⟨none,0,0,[],rfl,⟨rfl,by decide,fun k hk=>absurd hk (by omega)⟩⟩
 ·have ec:Tryz.prog.cellsOf 105=5:=by kernel_rfl
  rw [ec] at hel
  have each:∀ i,i<len→∃ y:Option Addr × Nat × Nat × GE,∃ cs',W.cells? 0 (a.add (i * 5)) 5=some cs'∧OpensE W y cs':=by
   intro i hi
   have he:=hel i hi
   rw [List.getElem?_eq_getElem (by omega)] at he
   cases hc:W.cells? 0 (a.add (i * 5)) 5 with
   | none=>rw [hc] at he; cases he
   | some cs' =>
    rw [hc] at he
    obtain ⟨g,a1,n1,c1,ps,hcs,hp,hs⟩:=open_gen he
    exact ⟨(a1,n1,c1,⟨g,ps⟩),cs',rfl,hcs,hp,hs⟩
  obtain ⟨y,hy⟩:=Go.Deep.choose_lt each
  have hm':len≤9223372036854775807:=by unfold maxLen at hm; omega
  refine ⟨some a,len,cap,(List.range len).map (fun i=>(y i).2.2.2),rfl,⟨by simp,hm',fun k hk=>?_⟩⟩
  obtain ⟨cs',hcs,rfl,hnk,hsk⟩:=hy k hk
  obtain ⟨_,_,hcell⟩:=World.cells?_some hcs
  obtain ⟨b,off,spot⟩:=a
  have hs:spot=none:=by
   obtain ⟨cs0,hcs0,_⟩:=hy 0 (by omega)
   obtain ⟨_,hl0,hcell0⟩:=World.cells?_some hcs0
   have h00:=hcell0 0 (by omega)
   rw [List.getElem?_eq_getElem (by omega)] at h00
   simpa [Addr.add] using World.cell?_spot h00
  subst hs
  have ey:((List.range len).map (fun i=>(y i).2.2.2)).getD k default=(y k).2.2.2:=by simp [hk]
  rw [ey]
  have cc:∀ j,j<5→W.cell? ⟨b,off+k * 5+j,none⟩ = [Value.int .i64 (y k).2.2.2.g.kind,.string (y k).2.2.2.g.text,.int .i64 (y k).2.2.2.g.addr,.int .i64 (y k).2.2.2.g.bits,.slice (y k).1 (y k).2.1 (y k).2.2.1][j]?:=by
   intro j hj
   have:=hcell j hj
   rw [Addr.add_lit,Addr.add_lit] at this
   exact this
  exact ⟨b,off,_,_,_,rfl,World.block_lt_of_cell? W _ (cc 0 (by omega)),⟨cc 0 (by omega),cc 1 (by omega),cc 2 (by omega),cc 3 (by omega),cc 4 (by omega)⟩,hnk,hsk⟩
set_option maxRecDepth 20000 in
theorem open_pub {H:Type}{enc:TypeId × Value→H}{W:World}{fuel:Nat}{cs:List Value}{x:DataW H × List MemPlace}(h:DataW.trod enc Tryz.prog W 0 (fun _=>true) true fuel 27 cs=some x):∃ s y k:Int,cs = [.int .i64 s,.int .u64 y,.int .i64 k]∧U64 y:=by
 obtain ⟨xs,m,rfl,_,hl,hxl,hf⟩:=DataW.trod_struct Tryz.underlying27 h
 have hl2:cs.length=3:=hl.trans (by kernel_rfl)
 have hx2:xs.length=3:=hxl
 obtain ⟨c0,c1,c2,rfl⟩:∃ c0 c1 c2,cs = [c0,c1,c2]:=by
  match cs,hl2 with
  | [c0,c1,c2],_=>exact ⟨c0,c1,c2,rfl⟩
 obtain ⟨x0,x1,x2,rfl⟩:∃ y0 y1 y2,xs = [y0,y1,y2]:=by
  match xs,hx2 with
  | [y0,y1,y2],_=>exact ⟨y0,y1,y2,rfl⟩
 have e0:Tryz.prog.cellsOf 2=1:=by kernel_rfl
 have f0:DataW.trod enc Tryz.prog W 0 (fun _=>true) true m 2 ((([c0,c1,c2]:List Value).drop 0).take (Tryz.prog.cellsOf 2))=some x0:=hf 0 _ rfl
 rw [e0] at f0
 have e1:Tryz.prog.cellsOf 25=1:=by kernel_rfl
 have f1:DataW.trod enc Tryz.prog W 0 (fun _=>true) true m 25 ((([c0,c1,c2]:List Value).drop 1).take (Tryz.prog.cellsOf 25))=some x1:=hf 1 _ rfl
 rw [e1] at f1
 have e2:Tryz.prog.cellsOf 2=1:=by kernel_rfl
 have f2:DataW.trod enc Tryz.prog W 0 (fun _=>true) true m 2 ((([c0,c1,c2]:List Value).drop 2).take (Tryz.prog.cellsOf 2))=some x2:=hf 2 _ rfl
 rw [e2] at f2
 obtain ⟨n0,h0,_,_⟩:=DataW.trod_int Tryz.underlying2 f0
 obtain ⟨n1,h1,_,hw⟩:=DataW.trod_int Tryz.underlying25 f1
 obtain ⟨n2,h2,_,_⟩:=DataW.trod_int Tryz.underlying2 f2
 simp at h0 h1 h2
 subst h0 h1 h2
 exact ⟨n0,n1,n2,rfl,bounds_u64 hw⟩
end Go.Proofs.YtmdfbnlgfhjnoaaGreatDoor
