import Derived.Test.YtkdandggklpppaaGreatDoorFE47
set_option maxRecDepth 10000
set_option maxHeartbeats 8000000
set_option linter.unusedVariables false
namespace Go.Proofs.YtkdandggklpppaaGreatDoor
open Go.ChangeShapes Go.WideShapes Go.ChangeAt Go.RowKit
set_option maxRecDepth 20000 in
theorem open_pub {H:Type}{enc:TypeId × Value→H}{W:World}{fuel:Nat}{cs:List Value}{x:DataW H × List MemPlace}(h:DataW.trod enc Tryz.prog W 0 (fun _=>true) true fuel 31 cs=some x):∃ s y k:Int,cs = [.int .i64 s,.int .u64 y,.int .i64 k]∧U64 y:=by
 obtain ⟨xs,m,rfl,_,hl,hxl,hf⟩:=DataW.trod_struct Tryz.underlying31 h
 have hl2:cs.length=3:=hl.trans (by kernel_rfl)
 have hx2:xs.length=3:=hxl
 obtain ⟨c0,c1,c2,rfl⟩:∃ c0 c1 c2,cs = [c0,c1,c2]:=by
  match cs,hl2 with
  | [c0,c1,c2],_=>exact ⟨c0,c1,c2,rfl⟩
 obtain ⟨x0,x1,x2,rfl⟩:∃ y0 y1 y2,xs = [y0,y1,y2]:=by
  match xs,hx2 with
  | [y0,y1,y2],_=>exact ⟨y0,y1,y2,rfl⟩
 have e0:Tryz.prog.cellsOf 2=1:=by kernel_rfl
 have f0:DataW.trod enc Tryz.prog W 0 (fun _=>true) true m 2 ((([c0,c1,c2]:List Value).drop 0).take (Tryz.prog.cellsOf 2))=some x0:=hf 0 _ rfl
 rw [e0] at f0
 have e1:Tryz.prog.cellsOf 29=1:=by kernel_rfl
 have f1:DataW.trod enc Tryz.prog W 0 (fun _=>true) true m 29 ((([c0,c1,c2]:List Value).drop 1).take (Tryz.prog.cellsOf 29))=some x1:=hf 1 _ rfl
 rw [e1] at f1
 have e2:Tryz.prog.cellsOf 2=1:=by kernel_rfl
 have f2:DataW.trod enc Tryz.prog W 0 (fun _=>true) true m 2 ((([c0,c1,c2]:List Value).drop 2).take (Tryz.prog.cellsOf 2))=some x2:=hf 2 _ rfl
 rw [e2] at f2
 obtain ⟨n0,h0,_,_⟩:=DataW.trod_int Tryz.underlying2 f0
 obtain ⟨n1,h1,_,hw⟩:=DataW.trod_int Tryz.underlying29 f1
 obtain ⟨n2,h2,_,_⟩:=DataW.trod_int Tryz.underlying2 f2
 simp at h0 h1 h2
 subst h0 h1 h2
 exact ⟨n0,n1,n2,rfl,bounds_u64 hw⟩
end Go.Proofs.YtkdandggklpppaaGreatDoor
