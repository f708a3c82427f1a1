import Derived.Test.YtnmplldhdfingaaGreatDoorFG12
import Derived.Test.YtnmplldhdfingaaGreatDoorFG15
set_option maxRecDepth 10000
set_option maxHeartbeats 8000000
set_option linter.unusedVariables false
namespace Go.Proofs.YtnmplldhdfingaaGreatDoor
open Go.RowKit
theorem run_index_vA (w:World)(l:List Int)(hl:l.length=18)(k:Nat)(hk:k<18):(Instr.index 220 (.agg (vA l)) (.int .i64 (k:Int))).run Tryz.prog w=.ok (.int .i64 (l.getD k 0)) w:=by
 have h1:0≤(k:Int)∧(k:Int)<((18:Nat):Int):=by omega
 have h3:(vA l)[k]? = some (.int .i64 (l.getD k 0)):=by rw [vA_get,List.getElem?_eq_getElem (by omega)]; simp [show k<l.length by omega]
 simp [Instr.index,run_underlying Tryz.underlying220,asIntOf,h1,part,go_sem]
 rw [if_pos hk,h3]
 simp
def tsv (leaf:Int)(ae:Option Addr)(ne ce:Nat)(ap:Option Addr)(np cp:Nat):Value:=.agg #[.int .i64 leaf,.slice ae ne ce,.slice ap np cp]
open Go.RowKit
theorem OwnU.mono {B B':Nat}{w:World}{a:Option Addr}{n cap:Nat}{zs:List Int}(h:OwnU B w a n cap zs)(hB:B'≤B):OwnU B' w a n cap zs :=
 ⟨⟨h.row.1,by rcases h.row.2 with h | ⟨g,cap,cur,hv,hb,r⟩; exact .inl h; exact .inr ⟨g,cap,cur,hv,by omega,r⟩⟩,h.rng⟩
theorem OwnU.set {B:Nat}{w:World}{a:Option Addr}{n cap:Nat}{zs:List Int}(h:OwnU B w a n cap zs){g:Nat}(hg:g<B)(i:Nat)(v:Value):OwnU B (w.setCell ⟨g,i,none⟩ v) a n cap zs:=by
 refine ⟨⟨h.row.1,?_⟩,h.rng⟩
 rcases h.row.2 with h | ⟨g',cap',cur,hv,hb,hh,r⟩
 ·exact .inl h
 ·exact .inr ⟨g',cap',cur,hv,hb,(Below.heap_setCell _ _ _ _ (by simp; omega)).trans hh,r⟩
end Go.Proofs.YtnmplldhdfingaaGreatDoor
