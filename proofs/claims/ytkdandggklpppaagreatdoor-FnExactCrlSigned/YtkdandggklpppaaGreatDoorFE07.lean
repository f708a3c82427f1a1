import Derived.Deep.RegionHeldLaw
import Derived.Test.YtkdandggklpppaaGreatDoorFE06
set_option maxRecDepth 10000
set_option maxHeartbeats 8000000
set_option linter.unusedVariables false
namespace Go.Proofs.YtkdandggklpppaaGreatDoor
open Go.RowKit
structure BoxN (t g:Nat)(W:World)(a:Option Addr)(n c:Nat):Prop where
 heap:W.heap[g]? = some (.cells #[.slice a n c] t (0,0))
theorem BoxN.cell {t g:Nat}{W:World}{a:Option Addr}{n c:Nat}(h:BoxN t g W a n c):W.cell? ⟨g,0,none⟩=some (.slice a n c):=(cell_of_row _ g 0 _ t (0,0) h.heap).trans rfl
theorem BoxN.kept {t g:Nat}{W W':World}{a:Option Addr}{n c:Nat}(h:BoxN t g W a n c)(hb:Below W.heap.size W W'):BoxN t g W' a n c:=⟨(hb.block _ (Array.getElem?_eq_some_iff.1 h.heap).1).trans h.heap⟩
theorem says_one {P:Prop}{a b:Bool}(h:Hid (a=true↔P))(k:Hid (b=true↔P)):a=b:=by
 have h2:=h.out.trans k.out.symm
 cases a <;> cases b <;> simp_all
open Go.RowKit
def FS (s:ByteArray):ByteArray:=strOfNums (foldL s)
theorem two_below (w:World)(o0 o1:Obj):Below w.heap.size w ((w.alloc o0).alloc o1):=((Below.refl _ _).alloc (Nat.le_refl _) _).alloc (by simp) _
theorem two_blocks (w:World)(o0 o1:Obj):((w.alloc o0).alloc o1).heap[w.heap.size]? = some o0∧((w.alloc o0).alloc o1).heap[w.heap.size+1]? = some o1:=by
 have s1:(w.alloc o0).heap.size=w.heap.size+1:=by simp
 exact ⟨(alloc_old' _ o1 _ (by omega)).trans (heap_alloc_new w o0),by rw [← s1]; exact heap_alloc_new _ o1⟩
end Go.Proofs.YtkdandggklpppaaGreatDoor
