import Derived.OwnWalk
import Derived.Test.YtkdandggklpppaaGreatDoorFE26
set_option maxRecDepth 10000
set_option maxHeartbeats 8000000
set_option linter.unusedVariables false
namespace Go.Proofs.YtkdandggklpppaaGreatDoor
open Go.RowKit
theorem step_append_ownT {P:Program}{ops:Array Oper}{o:Oper}{a:Act}{w:World}{K:Act→World→Prop}{Q:Exit→Act→World→Prop}{E:Prop}
  (hg:o.guard=none) (s x:Operand) (t:TypeId) (hop:o.op=Op.call { callee:=Callee.builtin Builtin.append,args:=#[s,x],argTypes:=#[t,t] })
  (base:Nat) (e:TypeId) (i:TypeInfo) (z:Value) (size bytes:Nat) (h1:P.underlying t=some (.slice e)) (h2:P.info? e=some i) (h3:i.zero=some z) (h4:i.size=size) (h5:i.bytes=bytes) (h6:z.cells.size=size) (h7:0<size)
  (v:Value) (n:Nat) (xs:List Value) (hs:a.eval s=v) (hown:w.ownsRow base e size v n xs)
  (ad:Addr) (m c:Nat) (news:List Value) (hx:a.eval x=.slice (some ad) m c) (hn:news.length=m * size) (hc:∀ j u,news[j]? = some u→w.cell? (ad.add j)=some u) (h1c:∀ u∈news,u.oneCell'=true)
  (b1:n+m≤maxLen) (b2:(n+m) * bytes≤140737488355328) (b3:base≤w.heap.size)
  (hK:∀ v' w',w'.ownsRow base e size v' (n+m) (xs++news)→w.grownBy w' v.ownBlock→K (a.put o.dst v') w') :
  if Region.wanted o (yielded ops a.tmps)=true then Oper.wp P o a w K Q else E:=by
 have hw:Region.wanted o (yielded ops a.tmps)=true:=by simp [Region.wanted,hg]
 rw [if_pos hw]
 obtain ⟨v',w',hrun,r1,r2,_⟩:=run_append_own (P:=P) w base t o.type e i z size bytes h1 h2 h3 h4 h5 h6 h7 v n xs hown ad m c news hn hc h1c b1 b2 b3
 unfold Oper.wp
 simp [execOp,hop,resolve,invoke,builtin,hs,hx,hrun,Result.andThen]
 exact hK v' w' r1 r2
theorem Tryz.infoU:(Tryz.prog.info? 29).map (fun i=>(i.zero,i.size,i.bytes))=some (some (.int .u64 0),1,8):=by kernel_rfl
theorem cell_oneU (w:World)(x:Int):∀ jj uu,([x].map (Value.int .u64))[jj]? = some uu→(w.alloc (.cells #[.int .u64 x] 29)).cell? ((⟨w.heap.size,0,none⟩:Addr).add jj)=some uu:=by
 intro jj uu hju
 rw [Addr.add_lit,Nat.zero_add,cell_of_row _ w.heap.size jj _ 29 _ (heap_alloc_new w _),← hju]
 simp
theorem madeU {B n:Nat}{w:World}{v:Value}(h:w.ownsRow B 29 1 v n (madeCells (Value.int .u64 0).cells (n * 1)).toList):w.ownsRow B 29 1 v n ((List.replicate n (0:Int)).map (Value.int .u64)):=by
 have e:(madeCells (Value.int .u64 0).cells (n * 1)).toList=(List.replicate n (0:Int)).map (Value.int .u64):=by
  rw [List.map_replicate,Nat.mul_one]; exact toList_madeCells_one _ _
 rwa [e] at h
theorem u64_take {zs:List Int}(h:∀ k,U64 (zs.getD k 0))(j:Nat):∀ k,U64 ((zs.take j).getD k 0):=by
 intro k
 have:=h k
 rw [List.getD_eq_getElem?_getD,List.getElem?_take]
 split
 ·simpa [List.getD_eq_getElem?_getD] using this
 ·simp [U64]
open Go.RowKit
theorem rowU_lit2 (w:World)(x y:Int)(hx:U64 x)(hy:U64 y):RowU (w.alloc (.cells #[.int .u64 x,.int .u64 y] 29)) (some ⟨w.heap.size,0,none⟩) 2 [x,y]:=by
 refine ⟨rfl,fun k hk=>⟨w.heap.size,0,rfl,by simp,?_⟩,fun k=>?_⟩
 ·rw [Nat.zero_add,cell_of_row _ w.heap.size k _ 29 _ (heap_alloc_new w _)]
  match k,hk with
  | 0,_=>rfl
  | 1,_=>rfl
 ·match k with
  | 0=>exact hx
  | 1=>exact hy
  | k+2=>simp [U64]
open Go.RowKit
def HN (h:Int)(N:Nat):Prop:=(h=0∧N=1)∨(h=1∧N=2)∨(h=2∧N=4)∨(h=3∧N=8)∨(h=4∧N=16)∨(h=5∧N=32)
theorem HN.of {h:Int}(h0:0≤h)(h5:h≤5):∃ N,HN h N:=by
 unfold HN
 have:h=0∨h=1∨h=2∨h=3∨h=4∨h=5:=by omega
 rcases this with rfl | rfl | rfl | rfl | rfl | rfl
 ·exact ⟨1,by omega⟩
 ·exact ⟨2,by omega⟩
 ·exact ⟨4,by omega⟩
 ·exact ⟨8,by omega⟩
 ·exact ⟨16,by omega⟩
 ·exact ⟨32,by omega⟩
theorem HN.le {h:Int}{N:Nat}(hn:HN h N):1≤N∧N≤32:=by unfold HN at hn; omega
theorem HN.sh {h:Int}{N:Nat}(hn:HN h N):wrap64 ((2:Int) ^ h.toNat)=(N:Int):=by
 unfold HN at hn
 rcases hn with ⟨rfl,rfl⟩ | ⟨rfl,rfl⟩ | ⟨rfl,rfl⟩ | ⟨rfl,rfl⟩ | ⟨rfl,rfl⟩ | ⟨rfl,rfl⟩ <;> decide +kernel
open Go.RowKit
theorem HN.pow {h:Int}{N:Nat}(hn:HN h N):N=2 ^ h.toNat∧h.toNat≤5:=by
 unfold HN at hn
 rcases hn with ⟨rfl,rfl⟩ | ⟨rfl,rfl⟩ | ⟨rfl,rfl⟩ | ⟨rfl,rfl⟩ | ⟨rfl,rfl⟩ | ⟨rfl,rfl⟩ <;> decide
open Go.RowKit
theorem below_dn {B:Nat}{w w':World}(h:Below B w w')(n:Nat):Below B w (w'.drewN n):=by
 induction n with
 | zero=>simpa [World.drewN] using h
 | succ n ih=>exact ih.drew
open Go.RowKit
structure Row64 (w:World)(a:Option Addr)(n:Nat)(zs:List Int):Prop where
 len:zs.length=n
 get:∀ k,k<n→∃ b off,a=some ⟨b,off,none⟩∧b<w.heap.size∧w.cell? ⟨b,off+k,none⟩=some (.int .i64 (zs.getD k 0))
theorem Tryz.info2:(Tryz.prog.info? 2).map (fun i=>(i.zero,i.size,i.bytes))=some (some (.int .i64 0),1,8):=by kernel_rfl
end Go.Proofs.YtkdandggklpppaaGreatDoor
