import Derived.Test.YtmdfbnlgfhjnoaaGreatDoorFB31
set_option maxRecDepth 10000
set_option maxHeartbeats 8000000
set_option linter.unusedVariables false
namespace Go.Proofs.YtmdfbnlgfhjnoaaGreatDoor
open Go.RowKit
structure CEQ (w W:World)(ls:Array Value)(R:World→Prop)(vs:Array Value):Prop where
 b0:W.heap[w.heap.size]? = some (.cells ls 34 (0,0))
 b1:W.heap[w.heap.size+1]? = some (.cells #[.int .i64 0,.slice none 0 0,.slice none 0 0,.int .i64 0,.int .i64 0,.int .i64 0,.int .u64 0,.int .i64 0,.bool false,.int .i64 0,.int .i64 0,.slice none 0 0,.slice none 0 0,.slice none 0 0,.slice none 0 0,.slice none 0 0,.int .i64 0,.int .i64 0,.int .i64 0,.slice none 0 0,.slice none 0 0] 46 (0,0))
 b2:W.heap[w.heap.size+1+1]? = some (.cells vs 46 (0,0))
 st:Stab (w.heap.size+3) R
 r:R W
 below:Below w.heap.size w W
 lt:w.heap.size+3≤W.heap.size
theorem CEQ.set {w W:World}{ls vs:Array Value}{R:World→Prop}(h:CEQ w W ls R vs){us:Array Value}(j:Nat)(u:Value)(e:vs.setIfInBounds j u=us):CEQ w (W.setCell ⟨w.heap.size+1+1,j,none⟩ u) ls R us:=by
 have f:∀ l,l≠w.heap.size+2→(W.setCell ⟨w.heap.size+1+1,j,none⟩ u).heap[l]? = W.heap[l]?:=fun l hl=>Below.heap_setCell _ _ _ _ (by show l≠w.heap.size+1+1; omega)
 refine ⟨(f _ (by omega)).trans h.b0,(f _ (by omega)).trans h.b1,?_,h.st,h.st W _ (fun l hl _=>f l (by omega)) (by simp) h.r,⟨h.below.os,h.below.tape,h.below.output,by simpa [World.setCell] using h.below.size,fun l hl=>(f l (by omega)).trans (h.below.block l hl)⟩,by simpa [World.setCell] using h.lt⟩
 rw [← e]
 exact heap_setCell_same W (w.heap.size+1+1) j _ 46 u h.b2
theorem CEQ.on {w W:World}{ls vs:Array Value}{R:World→Prop}{W':World}(h:CEQ w W ls R vs)(hb:Below W.heap.size W W'):CEQ w W' ls R vs:=by
 have hl:=h.lt
 have hs:=hb.size
 exact ⟨(hb.block _ (by omega)).trans h.b0,(hb.block _ (by omega)).trans h.b1,(hb.block _ (by omega)).trans h.b2,h.st,h.st W W' (fun l _ hl=>hb.block l hl) hs h.r,h.below.trans (hb.mono h.below.size),by omega⟩
theorem CEQ.more {w W:World}{ls vs:Array Value}{R Q:World→Prop}(h:CEQ w W ls R vs)(s:Stab (w.heap.size+3) Q)(q:Q W):CEQ w W ls Q vs:=⟨h.b0,h.b1,h.b2,s,q,h.below,h.lt⟩
theorem CEQ.out {w W:World}{ls vs:Array Value}{R:World→Prop}(h:CEQ w W ls R vs)(j:Nat):W.cell? ⟨w.heap.size+1+1,j,none⟩=vs[j]?∧W.frozen? ⟨w.heap.size+1+1,j,none⟩=false∧W.cell? ⟨w.heap.size,j,none⟩=ls[j]? :=
 ⟨cell_of_row _ _ j _ 46 (0,0) h.b2,frozen_of_row W _ j _ 46 h.b2,cell_of_row _ _ j _ 34 (0,0) h.b0⟩
theorem infoSizeCE:(Tryz.prog.info? 46).map (·.size)=some 21:=by kernel_rfl
end Go.Proofs.YtmdfbnlgfhjnoaaGreatDoor
