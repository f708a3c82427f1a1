import Derived.Test.YtmdfbnlgfhjnoaaGreatDoorFA06
import Derived.Test.YtmdfbnlgfhjnoaaGreatDoorFA20
set_option maxRecDepth 10000
set_option maxHeartbeats 8000000
set_option linter.unusedVariables false
namespace Go.Proofs.YtmdfbnlgfhjnoaaGreatDoor
open Go.RowKit
structure RowI (S:Nat→Prop)(w:World)(a:Option Addr)(n:Nat)(bs:List Int):Prop where
 row:Row w a n bs
 lt:∀ x,a=some x→0<n→S x.block
theorem RowI.touch {S P:Nat→Prop}{w w':World}{a:Option Addr}{n:Nat}{bs:List Int}(h:RowI S w a n bs)(hd:∀ k,S k→¬ P k)(ht:TouchX P w w'):RowI S w' a n bs:=by
 refine ⟨⟨h.row.len,fun k hk=>?_,h.row.byte⟩,h.lt⟩
 obtain ⟨b,off,ha,hlt,hc⟩:=h.row.get k hk
 have hb:=ht.block b hlt (hd b (h.lt _ ha (by omega)))
 exact ⟨b,off,ha,Nat.lt_of_lt_of_le hlt ht.size,(World.cell?_of_block (a:=⟨b,off+k,none⟩) hb).trans hc⟩
theorem RowI.mono {S T:Nat→Prop}{w:World}{a:Option Addr}{n:Nat}{bs:List Int}(h:RowI S w a n bs)(hs:∀ k,S k→T k):RowI T w a n bs:=⟨h.row,fun x hx h0=>hs _ (h.lt x hx h0)⟩
theorem Row.toI {w:World}{a:Option Addr}{n:Nat}{bs:List Int}(h:Row w a n bs):RowI (fun b=>b<w.heap.size) w a n bs:=⟨h,fun x hx h0=>by
 obtain ⟨b,off,ha,hlt,_⟩:=h.get 0 h0
 rw [hx] at ha
 have:x=⟨b,off,none⟩:=by injection ha
 rw [this]; exact hlt⟩
theorem Own.toI {B:Nat}{w:World}{a:Option Addr}{n c:Nat}{bs:List Int}(h:Own B w a n c bs):RowI (fun b=>B≤b∧b<w.heap.size) w a n bs:=⟨h.toRow,fun x hx h0=>by
 have:=h.row.lt x.block (by rw [hx]; rfl)
 exact ⟨this.1,this.2⟩⟩
def KidsI:Nat→(Nat→Prop)→World→Option Addr→Nat→List It→Prop
 | 0,_,_,_,_,_=>False
 | d+1,S,w,a,n,xs=>xs.length=n∧n≤9223372036854775807∧∀ k,k<n→∃ b off,a=some ⟨b,off,none⟩∧b<w.heap.size∧S b∧∃ ab nb cb ak nk ck,
   w.cell? ⟨b,off+k * 5,none⟩=some (.int .i64 (xs.getD k default).cls)∧w.cell? ⟨b,off+k * 5+1,none⟩=some (.int .i64 (xs.getD k default).tag)∧w.cell? ⟨b,off+k * 5+2,none⟩=some (.bool (xs.getD k default).cons)
   ∧ w.cell? ⟨b,off+k * 5+3,none⟩=some (.slice ab nb cb)∧w.cell? ⟨b,off+k * 5+4,none⟩=some (.slice ak nk ck)
   ∧ RowI S w ab nb (xs.getD k default).body∧(ab=none→cb=0)∧nb≤9223372036854775807∧KidsI d S w ak nk (xs.getD k default).kids
theorem KidsI.kids {d:Nat}:∀ {S:Nat→Prop} {w:World} {a:Option Addr} {n:Nat} {xs:List It},KidsI d S w a n xs→Kids d w a n xs:=by
 induction d with
 | zero=>intro _ _ _ _ _ h; exact h.elim
 | succ d ih =>
  intro S w a n xs h
  refine ⟨h.1,h.2.1,fun k hk=>?_⟩
  obtain ⟨b,off,ha,hlt,_,ab,nb,cb,ak,nk,ck,c0,c1,c2,c3,c4,hr,hn,hm,hk⟩:=h.2.2 k hk
  exact ⟨b,off,ha,hlt,ab,nb,cb,ak,nk,ck,c0,c1,c2,c3,c4,hr.row,hn,hm,ih hk⟩
theorem KidsI.mono {d:Nat}:∀ {S T:Nat→Prop} {w:World} {a:Option Addr} {n:Nat} {xs:List It},KidsI d S w a n xs→(∀ k,S k→T k)→KidsI d T w a n xs:=by
 induction d with
 | zero=>intro _ _ _ _ _ _ h; exact h.elim
 | succ d ih =>
  intro S T w a n xs h hs
  refine ⟨h.1,h.2.1,fun k hk=>?_⟩
  obtain ⟨b,off,ha,hlt,hS,ab,nb,cb,ak,nk,ck,c0,c1,c2,c3,c4,hr,hn,hm,hk⟩:=h.2.2 k hk
  exact ⟨b,off,ha,hlt,hs b hS,ab,nb,cb,ak,nk,ck,c0,c1,c2,c3,c4,hr.mono hs,hn,hm,ih hk hs⟩
theorem KidsI.more {d:Nat}:∀ {S:Nat→Prop} {w:World} {a:Option Addr} {n:Nat} {xs:List It},KidsI d S w a n xs→KidsI (d+1) S w a n xs:=by
 induction d with
 | zero=>intro _ _ _ _ _ h; exact h.elim
 | succ d ih =>
  intro S w a n xs h
  refine ⟨h.1,h.2.1,fun k hk=>?_⟩
  obtain ⟨b,off,ha,hlt,hS,ab,nb,cb,ak,nk,ck,c0,c1,c2,c3,c4,hr,hn,hm,hk⟩:=h.2.2 k hk
  exact ⟨b,off,ha,hlt,hS,ab,nb,cb,ak,nk,ck,c0,c1,c2,c3,c4,hr,hn,hm,ih hk⟩
theorem KidsI.touch {d:Nat}:∀ {S P:Nat→Prop} {w w':World} {a:Option Addr} {n:Nat} {xs:List It},KidsI d S w a n xs→(∀ k,S k→¬ P k)→TouchX P w w'→KidsI d S w' a n xs:=by
 induction d with
 | zero=>intro _ _ _ _ _ _ _ h; exact h.elim
 | succ d ih =>
  intro S P w w' a n xs h hd ht
  refine ⟨h.1,h.2.1,fun k hk=>?_⟩
  obtain ⟨b,off,ha,hlt,hS,ab,nb,cb,ak,nk,ck,c0,c1,c2,c3,c4,hr,hn,hm,hk⟩:=h.2.2 k hk
  have cc:∀ j,w'.cell? ⟨b,j,none⟩=w.cell? ⟨b,j,none⟩:=fun j=>World.cell?_of_block (a:=⟨b,j,none⟩) (ht.block b hlt (hd b hS))
  exact ⟨b,off,ha,Nat.lt_of_lt_of_le hlt ht.size,hS,ab,nb,cb,ak,nk,ck,(cc _).trans c0,(cc _).trans c1,(cc _).trans c2,(cc _).trans c3,(cc _).trans c4,hr.touch hd ht,hn,hm,ih hk hd ht⟩
theorem KidsI.none (d:Nat)(S:Nat→Prop)(w:World)(a:Option Addr):KidsI (d+1) S w a 0 []:=⟨rfl,by decide,fun k hk=>absurd hk (Nat.not_lt_zero _)⟩
structure ItV (d:Nat)(S:Nat→Prop)(w:World)(x:It)(ab:Option Addr)(nb cb:Nat)(ak:Option Addr)(nk ck:Nat):Prop where
 row:RowI S w ab nb x.body
 nil:ab=none→cb=0
 max:nb≤9223372036854775807
 kids:KidsI d S w ak nk x.kids
theorem ItV.touch {d:Nat}{S P:Nat→Prop}{w w':World}{x:It}{ab:Option Addr}{nb cb:Nat}{ak:Option Addr}{nk ck:Nat}(h:ItV d S w x ab nb cb ak nk ck)(hd:∀ k,S k→¬ P k)(ht:TouchX P w w'):ItV d S w' x ab nb cb ak nk ck:=⟨h.row.touch hd ht,h.nil,h.max,h.kids.touch hd ht⟩
theorem ItV.kept {d:Nat}{S:Nat→Prop}{w w':World}{x:It}{ab:Option Addr}{nb cb:Nat}{ak:Option Addr}{nk ck:Nat}(h:ItV d S w x ab nb cb ak nk ck)(hb:Below w.heap.size w w'):ItV d S w' x ab nb cb ak nk ck:=h.touch (P:=fun _=>False) (fun _ _ h=>h) (TouchX.of_below hb)
theorem ItV.mono {d:Nat}{S T:Nat→Prop}{w:World}{x:It}{ab:Option Addr}{nb cb:Nat}{ak:Option Addr}{nk ck:Nat}(h:ItV d S w x ab nb cb ak nk ck)(hs:∀ k,S k→T k):ItV d T w x ab nb cb ak nk ck:=⟨h.row.mono hs,h.nil,h.max,h.kids.mono hs⟩
theorem ItV.more {d:Nat}{S:Nat→Prop}{w:World}{x:It}{ab:Option Addr}{nb cb:Nat}{ak:Option Addr}{nk ck:Nat}(h:ItV d S w x ab nb cb ak nk ck):ItV (d+1) S w x ab nb cb ak nk ck:=⟨h.row,h.nil,h.max,h.kids.more⟩
def itc (x:It)(ab:Option Addr)(nb cb:Nat)(ak:Option Addr)(nk ck:Nat):List Value:=[.int .i64 x.cls,.int .i64 x.tag,.bool x.cons,.slice ab nb cb,.slice ak nk ck]
structure OwnIts (d:Nat)(S:Nat→Prop)(w:World)(a:Option Addr)(n c:Nat)(xs:List It):Prop where
 len:xs.length=n
 max:n≤9223372036854775807
 own:∃ vs,w.ownsRow 0 75 5 (.slice a n c) n vs∧∀ k,k<n→∃ ab nb cb ak nk ck,(∀ j,j<5→vs[k * 5+j]? = (itc (xs.getD k default) ab nb cb ak nk ck)[j]?)∧ItV d S w (xs.getD k default) ab nb cb ak nk ck
 ap:∀ b,(Value.slice a n c).ownBlock=some b→¬ S b
theorem OwnIts.nil (d:Nat)(w:World):OwnIts d (fun _=>False) w none 0 0 []:=⟨rfl,by decide,⟨[],⟨rfl,.inl ⟨rfl,rfl⟩⟩,fun k hk=>absurd hk (Nat.not_lt_zero _)⟩,fun b hb=>by cases hb⟩
theorem OwnIts.touch {d:Nat}{S P:Nat→Prop}{w w':World}{a:Option Addr}{n c:Nat}{xs:List It}(h:OwnIts d S w a n c xs)(hd:∀ k,S k→¬ P k)(hr:∀ b,(Value.slice a n c).ownBlock=some b→¬ P b)(ht:TouchX P w w'):OwnIts d S w' a n c xs:=by
 obtain ⟨h0,h1,⟨vs,hv,h2⟩,h3⟩:=h
 refine ⟨h0,h1,⟨vs,ownsRow_moveX (S:=fun b=>(Value.slice a n c).ownBlock=some b) hv (fun _ h=>h) hr ht,fun k hk=>?_⟩,h3⟩
 obtain ⟨ab,nb,cb,ak,nk,ck,e,hi⟩:=h2 k hk
 exact ⟨ab,nb,cb,ak,nk,ck,e,hi.touch hd ht⟩
theorem OwnIts.kept {d:Nat}{S:Nat→Prop}{w w':World}{a:Option Addr}{n c:Nat}{xs:List It}(h:OwnIts d S w a n c xs)(hb:Below w.heap.size w w'):OwnIts d S w' a n c xs:=h.touch (P:=fun _=>False) (fun _ _ h=>h) (fun _ _ h=>h) (TouchX.of_below hb)
theorem OwnIts.mono {d:Nat}{S T:Nat→Prop}{w:World}{a:Option Addr}{n c:Nat}{xs:List It}(h:OwnIts d S w a n c xs)(hs:∀ k,S k→T k)(hr:∀ b,(Value.slice a n c).ownBlock=some b→¬ T b):OwnIts d T w a n c xs:=by
 obtain ⟨h0,h1,⟨vs,hv,h2⟩,h3⟩:=h
 refine ⟨h0,h1,⟨vs,hv,fun k hk=>?_⟩,hr⟩
 obtain ⟨ab,nb,cb,ak,nk,ck,e,hi⟩:=h2 k hk
 exact ⟨ab,nb,cb,ak,nk,ck,e,hi.mono hs⟩
theorem OwnIts.kids {d:Nat}{S T:Nat→Prop}{w:World}{a:Option Addr}{n c:Nat}{xs:List It}(h:OwnIts d S w a n c xs)(hs:∀ k,S k→T k)(hr:∀ b,(Value.slice a n c).ownBlock=some b→T b):KidsI (d+1) T w a n xs:=by
 obtain ⟨h0,h1,⟨vs,hv,h2⟩,h3⟩:=h
 refine ⟨h0,h1,fun k hk=>?_⟩
 obtain ⟨ab,nb,cb,ak,nk,ck,e,hi⟩:=h2 k hk
 rcases hv.2 with ⟨_,hn⟩ | ⟨g,cap,cur,hva,_,hh,_⟩
 ·omega
 ·simp only [Value.slice.injEq] at hva
  obtain ⟨rfl,_,rfl⟩:=hva
  have cc:∀ j,j<5→w.cell? ⟨g,0+k * 5+j,none⟩=(itc (xs.getD k default) ab nb cb ak nk ck)[j]?:=fun j hj=>by
   rw [Nat.zero_add,hv.cellAt _ (by omega)]
   exact e j hj
  exact ⟨g,0,rfl,(Array.getElem?_eq_some_iff.1 hh).1,hr g rfl,ab,nb,cb,ak,nk,ck,cc 0 (by omega),cc 1 (by omega),cc 2 (by omega),cc 3 (by omega),cc 4 (by omega),hi.row.mono hs,hi.nil,hi.max,hi.kids.mono hs⟩
theorem getI_last (xs:List It)(y:It):(xs++[y]).getD xs.length default=y:=by simp
theorem getI_more (xs:List It)(y:It)(k:Nat)(h:k<xs.length):(xs++[y]).getD k default=xs.getD k default:=by simp [List.getElem?_append_left h,h]
theorem OwnIts.appended {d:Nat}{S T:Nat→Prop}{w w1:World}{a:Option Addr}{n c:Nat}{xs:List It}{y:It}{ab:Option Addr}{nb cb:Nat}{ak:Option Addr}{nk ck:Nat}{g' c':Nat}
  (h:OwnIts d S w a n c xs) (hy:ItV d T w y ab nb cb ak nk ck) (hs:∀ b,S b→T b) (hr:∀ b,(Value.slice a n c).ownBlock=some b→¬ T b) (hlt:∀ b,T b→b<w.heap.size) (hn:n+1≤9223372036854775807)
  {vs:List Value} (hv0:w.ownsRow 0 75 5 (.slice a n c) n vs) (hv:w1.ownsRow 0 75 5 (.slice (some ⟨g',0,none⟩) (n+1) c') (n+1) (vs++itc y ab nb cb ak nk ck)) (hg:w.grownBy w1 (Value.slice a n c).ownBlock) (hl:(Value.slice a n c).ownBlock=some g'∨g'=w.heap.size):OwnIts d T w1 (some ⟨g',0,none⟩) (n+1) c' (xs++[y]):=by
 obtain ⟨h0,h1,⟨us,hu,h2⟩,h3⟩:=h
 have euv:us=vs:=by
  rcases hu.2 with ⟨h4,h5⟩ | ⟨g1,cap1,cur1,e1,_,hh1,_,_,_,ht1⟩
  ·have q1:=hu.1
   have q2:=hv0.1
   rw [h5] at q1 q2
   exact (List.eq_nil_of_length_eq_zero (by omega)).trans (List.eq_nil_of_length_eq_zero (by omega)).symm
  ·rcases hv0.2 with ⟨h4,h5⟩ | ⟨g2,cap2,cur2,e2,_,hh2,_,_,_,ht2⟩
   ·rw [h4] at e1; cases e1
   ·rw [e1] at e2
    simp only [Value.slice.injEq,Option.some.injEq,Addr.mk.injEq,and_true] at e2
    rw [e2.1] at hh1
    rw [hh1] at hh2
    injection hh2 with hh2
    injection hh2 with hh2
    rw [← ht1,← ht2,hh2]
 subst euv
 have ht:TouchX (fun b=>(Value.slice a n c).ownBlock=some b) w w1:=touchX_g hg (fun k hk=>hk)
 have hd:∀ b,T b→¬ (Value.slice a n c).ownBlock=some b:=fun b hb e=>hr b e hb
 have hul:us.length=n * 5:=hu.1
 refine ⟨by simp [h0],hn,⟨_,hv,fun k hk=>?_⟩,fun b hb hT=>?_⟩
 ·by_cases e:k=n
  ·subst e
   have e2:(xs++[y]).getD k default=y:=by rw [← h0]; exact getI_last xs y
   rw [e2]
   refine ⟨ab,nb,cb,ak,nk,ck,fun j hj=>?_,hy.touch hd ht⟩
   rw [List.getElem?_append_right (by omega)]
   congr 1
   omega
  ·have e2:(xs++[y]).getD k default=xs.getD k default:=getI_more xs y k (by omega)
   rw [e2]
   obtain ⟨ab,nb,cb,ak,nk,ck,e3,hi⟩:=h2 k (by omega)
   refine ⟨ab,nb,cb,ak,nk,ck,fun j hj=>?_,(hi.mono hs).touch hd ht⟩
   rw [List.getElem?_append_left (by omega)]
   exact e3 j hj
 ·have:g'=b:=by injection hb
  rw [← this] at hT
  rcases hl with hl | hl
  ·exact hr g' hl hT
  ·have:=hlt g' hT
   omega
open Go.RowKit
def strI (ks:List It):It:=.mk 0 16 true [] ks
def lstI (ks:List It):It:=.mk 0 17 true [] ks
end Go.Proofs.YtmdfbnlgfhjnoaaGreatDoor
