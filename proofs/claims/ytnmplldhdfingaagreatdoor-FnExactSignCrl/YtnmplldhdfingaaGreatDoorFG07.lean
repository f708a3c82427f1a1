import Derived.Test.YtnmplldhdfingaaGreatDoorFG06
set_option maxRecDepth 10000
set_option maxHeartbeats 8000000
set_option linter.unusedVariables false
namespace Go.Proofs.YtnmplldhdfingaaGreatDoor
open Go.RowKit
def Stab (B:Nat)(R:World→Prop):Prop:=∀ W W':World,(∀ l,B≤l→l<W.heap.size→W'.heap[l]? = W.heap[l]?)→W.heap.size≤W'.heap.size→R W→R W'
theorem stab_and {B:Nat}{R Q:World→Prop}(h:Stab B R)(k:Stab B Q):Stab B (fun W=>R W∧Q W):=fun W W' e s r=>⟨h W W' e s r.1,k W W' e s r.2⟩
theorem stab_lt (B g:Nat):Stab B (fun W=>g<W.heap.size):=fun _ _ _ s h=>Nat.lt_of_lt_of_le h s
theorem pts_move {B g n:Nat}{xs:List PT}(hB:B≤g)(W W':World)(e:∀ l,B≤l→l<W.heap.size→W'.heap[l]? = W.heap[l]?)(s:W.heap.size≤W'.heap.size)(h:Pts W (some ⟨g,0,none⟩) n xs):Pts W' (some ⟨g,0,none⟩) n xs:=by
 refine ⟨h.len,h.max,fun k hk=>?_⟩
 obtain ⟨b,off,ha,hlt,hc,hn⟩:=h.get k hk
 simp only [Option.some.injEq,Addr.mk.injEq,and_true] at ha
 obtain ⟨rfl,rfl⟩:=ha
 exact ⟨g,0,rfl,Nat.lt_of_lt_of_le hlt s,hc.of (fun i=>by simp [World.cell?,e g hB hlt]),hn⟩
theorem stab_go {B g n:Nat}{xs:List GP}(hB:B≤g):Stab B (fun W=>GoPre W g n xs):=fun W W' e s h j hj=>by
 obtain ⟨gn,nn,h1,h3,h4⟩:=h j hj
 have hlt:g<W.heap.size:=World.block_lt_of_cell? W _ h3.c0
 exact ⟨gn,nn,h1,h3.of (fun i=>by simp [World.cell?,e g hB hlt]),pts_move (by omega) W W' e s h4⟩
theorem stab_own {B B':Nat}{a:Option Addr}{n cap:Nat}{bs:List Int}(hB:B≤B'):Stab B (fun W=>Own B' W a n cap bs):=fun W W' e s h=>by
 refine ⟨⟨h.row.1,?_⟩,h.byte⟩
 rcases h.row.2 with q | ⟨g,c,cur,h1,hb,hg,r⟩
 ·exact .inl q
 ·exact .inr ⟨g,c,cur,h1,hb,(e g (by omega) (Array.getElem?_eq_some_iff.1 hg).1).trans hg,r⟩
structure TC (w W:World)(a1:Option Addr)(n1 c1:Nat)(a2:Option Addr)(n2 c2:Nat)(a3:Option Addr)(n3 c3:Nat)(x:CP)(R:World→Prop)(vs:Array Value):Prop where
 b0:W.heap[w.heap.size]? = some (.cells #[.slice a1 n1 c1,.int .i64 x.num,.int .i64 x.base,.int .i64 x.tm,.int .i64 x.next,.int .i64 x.scope,.bool x.ind,.slice a2 n2 c2,.slice a3 n3 c3] 28 (0,0))
 b1:W.heap[w.heap.size+1]? = some (.cells #[.slice none 0 0,.int .i64 0,.int .i64 0,.int .i64 0,.int .i64 0,.int .i64 0,.bool false,.slice none 0 0,.slice none 0 0] 38 (0,0))
 b2:W.heap[w.heap.size+1+1]? = some (.cells vs 38 (0,0))
 st:Stab (w.heap.size+3) R
 r:R W
 below:Below w.heap.size w W
 lt:w.heap.size+3≤W.heap.size
theorem TC.set {w W:World}{a1:Option Addr}{n1 c1:Nat}{a2:Option Addr}{n2 c2:Nat}{a3:Option Addr}{n3 c3:Nat}{x:CP}{R:World→Prop}{vs:Array Value}(h:TC w W a1 n1 c1 a2 n2 c2 a3 n3 c3 x R vs){us:Array Value}(j:Nat)(u:Value)(e:vs.setIfInBounds j u=us):TC w (W.setCell ⟨w.heap.size+1+1,j,none⟩ u) a1 n1 c1 a2 n2 c2 a3 n3 c3 x R us:=by
 have f:∀ l,l≠w.heap.size+2→(W.setCell ⟨w.heap.size+1+1,j,none⟩ u).heap[l]? = W.heap[l]?:=fun l hl=>Below.heap_setCell _ _ _ _ (by show l≠w.heap.size+1+1; omega)
 refine ⟨(f _ (by omega)).trans h.b0,(f _ (by omega)).trans h.b1,?_,h.st,h.st W _ (fun l hl _=>f l (by omega)) (by simp) h.r,⟨h.below.os,h.below.tape,h.below.output,by simpa [World.setCell] using h.below.size,fun l hl=>(f l (by omega)).trans (h.below.block l hl)⟩,by simpa [World.setCell] using h.lt⟩
 rw [← e]
 exact heap_setCell_same W (w.heap.size+1+1) j _ 38 u h.b2
theorem TC.on {w W:World}{a1:Option Addr}{n1 c1:Nat}{a2:Option Addr}{n2 c2:Nat}{a3:Option Addr}{n3 c3:Nat}{x:CP}{R:World→Prop}{vs:Array Value}{W':World}(h:TC w W a1 n1 c1 a2 n2 c2 a3 n3 c3 x R vs)(hb:Below W.heap.size W W'):TC w W' a1 n1 c1 a2 n2 c2 a3 n3 c3 x R vs:=by
 have hl:=h.lt
 have hs:=hb.size
 exact ⟨(hb.block _ (by omega)).trans h.b0,(hb.block _ (by omega)).trans h.b1,(hb.block _ (by omega)).trans h.b2,h.st,h.st W W' (fun l _ hl=>hb.block l hl) hs h.r,h.below.trans (hb.mono h.below.size),by omega⟩
theorem TC.more {w W:World}{a1:Option Addr}{n1 c1:Nat}{a2:Option Addr}{n2 c2:Nat}{a3:Option Addr}{n3 c3:Nat}{x:CP}{R:World→Prop}{vs:Array Value}{Q:World→Prop}(h:TC w W a1 n1 c1 a2 n2 c2 a3 n3 c3 x R vs)(s:Stab (w.heap.size+3) Q)(q:Q W):TC w W a1 n1 c1 a2 n2 c2 a3 n3 c3 x Q vs:=⟨h.b0,h.b1,h.b2,s,q,h.below,h.lt⟩
theorem TC.out {w W:World}{a1:Option Addr}{n1 c1:Nat}{a2:Option Addr}{n2 c2:Nat}{a3:Option Addr}{n3 c3:Nat}{x:CP}{R:World→Prop}{vs:Array Value}(h:TC w W a1 n1 c1 a2 n2 c2 a3 n3 c3 x R vs)(j:Nat):W.cell? ⟨w.heap.size+1+1,j,none⟩=vs[j]?∧W.frozen? ⟨w.heap.size+1+1,j,none⟩=false∧W.cell? ⟨w.heap.size,j,none⟩=(#[.slice a1 n1 c1,.int .i64 x.num,.int .i64 x.base,.int .i64 x.tm,.int .i64 x.next,.int .i64 x.scope,.bool x.ind,.slice a2 n2 c2,.slice a3 n3 c3]:Array Value)[j]? :=
 ⟨cell_of_row _ _ j _ 38 (0,0) h.b2,frozen_of_row W _ j _ 38 h.b2,cell_of_row _ _ j _ 28 (0,0) h.b0⟩
end Go.Proofs.YtnmplldhdfingaaGreatDoor
