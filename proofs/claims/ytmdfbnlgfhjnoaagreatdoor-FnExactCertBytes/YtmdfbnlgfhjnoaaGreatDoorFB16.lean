import Derived.Test.YtmdfbnlgfhjnoaaGreatDoorFB11
set_option maxRecDepth 10000
set_option maxHeartbeats 8000000
set_option linter.unusedVariables false
namespace Go.Proofs.YtmdfbnlgfhjnoaaGreatDoor
open Go.RowKit
theorem Tryz.infoGe:(Tryz.prog.info? 127).map (fun i=>(i.zero,i.size,i.bytes))=some (some (.agg #[.int .i64 0,.string ⟨#[]⟩,.int .i64 0,.int .i64 0,.slice none 0 0]),5,64):=by kernel_rfl
def put5 (w:World)(g o:Nat)(v0 v1 v2 v3 v4:Value):World:=(((((w.setCell ⟨g,o,none⟩ v0).setCell ⟨g,o+1,none⟩ v1).setCell ⟨g,o+2,none⟩ v2).setCell ⟨g,o+3,none⟩ v3).setCell ⟨g,o+4,none⟩ v4)
theorem put5_other (w:World)(g o l:Nat)(h:l≠g)(v0 v1 v2 v3 v4:Value):(put5 w g o v0 v1 v2 v3 v4).heap[l]? = w.heap[l]? :=
 (Below.heap_setCell _ _ _ _ (by show l≠g; exact h)).trans ((Below.heap_setCell _ _ _ _ (by show l≠g; exact h)).trans ((Below.heap_setCell _ _ _ _ (by show l≠g; exact h)).trans ((Below.heap_setCell _ _ _ _ (by show l≠g; exact h)).trans (Below.heap_setCell _ _ _ _ (by show l≠g; exact h)))))
theorem put5_size (w:World)(g o:Nat)(v0 v1 v2 v3 v4:Value):(put5 w g o v0 v1 v2 v3 v4).heap.size=w.heap.size:=by simp [put5]
structure Put5 (B:Nat)(w w':World)(g n cap i:Nat)(an:Option Addr)(nn cn:Nat)(x:GE):Prop where
 own:∃ vs,w'.ownsRow B 127 5 (.slice (some ⟨g,0,none⟩) n cap) n vs
 other:∀ l,l≠g→w'.heap[l]? = w.heap[l]?
 size:w'.heap.size=w.heap.size
 old:∀ j,j<n * 5→j<i * 5∨i * 5+5≤j→w'.cell? ⟨g,j,none⟩=w.cell? ⟨g,j,none⟩
 cells:Cells5 w' g (i * 5) an nn cn x
theorem put5_is {B:Nat}{w:World}{g n cap:Nat}{vs:List Value}(h:w.ownsRow B 127 5 (.slice (some ⟨g,0,none⟩) n cap) n vs)(i:Nat)(hi:i<n)(an:Option Addr)(nn cn:Nat)(x:GE):Put5 B w (put5 w g (i * 5) (.int .i64 x.g.kind) (.string x.g.text) (.int .i64 x.g.addr) (.int .i64 x.g.bits) (.slice an nn cn)) g n cap i an nn cn x:=by
 have h1:=(((((h.stored (i * 5) (.int .i64 x.g.kind)).1.stored (i * 5+1) (.string x.g.text)).1.stored (i * 5+2) (.int .i64 x.g.addr)).1.stored (i * 5+3) (.int .i64 x.g.bits)).1.stored (i * 5+4) (.slice an nn cn)).1
 have hl:vs.length=n * 5:=h.1
 have cc:=fun j (hj:j<n * 5)=>h1.cellAt j hj
 refine ⟨⟨_,h1⟩,fun l hl=>put5_other _ _ _ _ hl _ _ _ _ _,put5_size _ _ _ _ _ _ _ _,fun j hj ho=>?_,⟨?_,?_,?_,?_,?_⟩⟩
 ·refine (cc j hj).trans ?_
  rw [h.cellAt j hj]
  rw [List.getElem?_set_ne (by omega),List.getElem?_set_ne (by omega),List.getElem?_set_ne (by omega),List.getElem?_set_ne (by omega),List.getElem?_set_ne (by omega)]
 ·refine (cc _ (by omega)).trans ?_
  rw [List.getElem?_set_ne (by omega),List.getElem?_set_ne (by omega),List.getElem?_set_ne (by omega),List.getElem?_set_ne (by omega),List.getElem?_set_self (by omega)]
 ·refine (cc _ (by omega)).trans ?_
  rw [List.getElem?_set_ne (by omega),List.getElem?_set_ne (by omega),List.getElem?_set_ne (by omega),List.getElem?_set_self (by simp; omega)]
 ·refine (cc _ (by omega)).trans ?_
  rw [List.getElem?_set_ne (by omega),List.getElem?_set_ne (by omega),List.getElem?_set_self (by simp; omega)]
 ·refine (cc _ (by omega)).trans ?_
  rw [List.getElem?_set_ne (by omega),List.getElem?_set_self (by simp; omega)]
 ·refine (cc _ (by omega)).trans ?_
  rw [List.getElem?_set_self (by simp; omega)]
end Go.Proofs.YtmdfbnlgfhjnoaaGreatDoor
