import Derived.Test.YtkdandggklpppaaGreatDoorFE44
set_option maxRecDepth 10000
set_option maxHeartbeats 8000000
set_option linter.unusedVariables false
namespace Go.Proofs.YtkdandggklpppaaGreatDoor
open Go.RowKit
def anyP (sc y h:Int)(ms ss:List Int):Prop:=(sc=1∧gkP y h∧vgP y ms ss)∨(sc=2∧hbP h∧vtP y h ms ss)
instance (sc y h:Int) (ms ss:List Int):Decidable (anyP sc y h ms ss):=by unfold anyP; infer_instance
theorem implVerifyAny_any (sc y h:Int)(am:Option Addr)(n c:Nat)(ms:List Int)(ag:Option Addr)(ng cg:Nat)(ss:List Int)(w:World)(hy:U64 y)(hr:Row w am n ms)(hn:n≤1048576)(hc:am=none→c=0)(hg:Row w ag ng ss)(hng:ng≤1048576)(hcg:ng≤cg) :
  Calls Tryz.prog 20 #[kpv sc y h,.slice am n c,.slice ag ng cg] w fun e w'=>e=.returned (.bool (decide (anyP sc y h ms ss)))∧Below w.heap.size w w':=by
 obtain ⟨wb,hwb⟩:∃ wb,wb=w.alloc (.cells #[.int .i64 sc,.int .u64 y,.int .i64 h] 41):=⟨_,rfl⟩
 have hbb:Below w.heap.size w wb:=by rw [hwb]; exact (Below.refl _ _).alloc (Nat.le_refl _) _
 have hbx:wb.heap[w.heap.size]? = some (.cells #[.int .i64 sc,.int .u64 y,.int .i64 h] 41):=by rw [hwb]; exact heap_alloc_new _ _
 have hlw:w.heap.size<wb.heap.size:=(Array.getElem?_eq_some_iff.1 hbx).1
 have HX:Hid (∀ w7,Below wb.heap.size wb w7→w7.heap[w.heap.size]? = some (.cells #[.int .i64 sc,.int .u64 y,.int .i64 h] 41)):=fun w7 h7=>(h7.block _ hlw).trans hbx
 have HW:Hid (_=_):=hwb
 have HM:Hid (∀ w7,Below wb.heap.size wb w7→Row w7 am n ms):=fun w7 h7=>hr.kept (keepT hbb h7)
 have HG:Hid (∀ w7,Below wb.heap.size wb w7→Row w7 ag ng ss):=fun w7 h7=>hg.kept (keepT hbb h7)
 clear hwb hg hr hbx
 unfold kpv
 go_enter Tryz.func20,Tryz.ntmps20
 go_wp2_with fail
 rw [← HW.out]
 clear HW
 refine (pubScheme_any sc y h _ hy).mono ?_
 rintro e w2 ⟨rfl,hb2⟩
 have hs:=HX.out _ hb2
 have s0:w2.cell? ⟨w.heap.size,0,none⟩=some (.int .i64 sc):=(cell_of_row _ _ 0 _ 41 (0,0) hs).trans rfl
 have s1:w2.cell? ⟨w.heap.size,1,none⟩=some (.int .u64 y):=(cell_of_row _ _ 1 _ 41 (0,0) hs).trans rfl
 have s2:w2.cell? ⟨w.heap.size,2,none⟩=some (.int .i64 h):=(cell_of_row _ _ 2 _ 41 (0,0) hs).trans rfl
 clear hs
 by_cases hp:pubP sc y h
 ·rw [decide_eq_true hp]
  rcases hp with ⟨h1,hp⟩ | ⟨h1,hp⟩
  ·subst h1
   have HV:Hid (decide (anyP 1 y h ms ss)=decide (vgP y ms ss)):=decide_eq_decide.2 ⟨fun a=>a.elim (fun a=>a.2.2) (fun a=>absurd a.1 (by decide)),fun a=>.inl ⟨rfl,hp,a⟩⟩
   have HI:Hid (ifvP 1=.iface 143 (.agg #[])):=rfl
   rw [HI.out]
   go_wp2_with fail
   refine (groupVerify_any 1 y h am n c ms ag ng cg ss _ (HM.out _ hb2) hn hc (HG.out _ hb2) hng hp.1).mono ?_
   rintro e w3 ⟨rfl,hb3⟩
   go_wp2
   go_ret
   exact ⟨by rw [HV.out]; rfl,keepT hbb (keepT hb2 hb3)⟩
  ·subst h1
   have HV:Hid (decide (anyP 2 y h ms ss)=decide (vtP y h ms ss)):=decide_eq_decide.2 ⟨fun a=>a.elim (fun a=>absurd a.1 (by decide)) (fun a=>a.2.2),fun a=>.inr ⟨rfl,hp,a⟩⟩
   have HI:Hid (ifvP 2=.iface 144 (.agg #[])):=rfl
   rw [HI.out]
   go_wp2_with fail
   refine (treeVerify_any 2 y h am n c ms ag ng cg ss _ (HM.out _ hb2) hn (HG.out _ hb2) hng hcg hp).mono ?_
   rintro e w3 ⟨rfl,hb3⟩
   go_wp2
   go_ret
   exact ⟨by rw [HV.out]; rfl,keepT hbb (keepT hb2 hb3)⟩
 ·have HV:Hid (decide (anyP sc y h ms ss)=false):=decide_eq_false (fun a=>hp (a.elim (fun a=>.inl ⟨a.1,a.2.1⟩) (fun a=>.inr ⟨a.1,a.2.1⟩)))
  rw [decide_eq_false hp]
  go_wp2
  go_ret
  exact ⟨by rw [HV.out]; rfl,keepT hbb hb2⟩
end Go.Proofs.YtkdandggklpppaaGreatDoor
