import Derived.Test.YtmdfbnlgfhjnoaaGreatDoorFC34
import Derived.Test.YtmdfbnlgfhjnoaaGreatDoorFC27
set_option maxRecDepth 10000
set_option maxHeartbeats 8000000
set_option linter.unusedVariables false
namespace Go.Proofs.YtmdfbnlgfhjnoaaGreatDoor
open Go.RowKit
def ownP (sub:List PT)(nms:List GE):Prop:=nameP sub∧(sub≠[]∨nms≠[])∧gensP nms nms.length
theorem wrapC (x:Int)(h0 : -9223372036854775808≤x)(h1:x≤9223372036854775807):IntKind.i64.wrap x=x:=by
 rw [IntKind.wrap_i64]; omega
theorem ownerOk_any (a:Option Addr)(n c:Nat)(sub:List PT)(b:Option Addr)(m d:Nat)(nms:List GE)(w:World)(hm:MaxW w)(h:Pts w a n sub)(hz:∀ k,k<n→(sub.getD k default).val.size≤1048576)(h2:Ges w b m nms)(hz2:∀ k,k<m→GeOk (nms.getD k default))(hn:n≤1048576)(hm1:m≤1048576) :
  Calls Tryz.prog 68 #[.agg #[.slice a n c],.slice b m d] w (Says (ownP sub nms) w):=by
 have HM:Hid (MaxW w):=hm
 have HK:Hid (Pts w a n sub):=h
 have HK2:Hid (Ges w b m nms):=h2
 have HZ:Hid (∀ k,k<n→(sub.getD k default).val.size≤1048576):=hz
 have HZ2:Hid (∀ k,k<m→GeOk (nms.getD k default)):=hz2
 have HL:Hid (sub.length=n):=h.len
 have HL2:Hid (nms.length=m):=h2.len
 clear h h2 hz hz2 hm
 obtain ⟨w0,hw0⟩:∃ w0,w0=w.alloc (.cells #[.slice a n c] 40):=⟨_,rfl⟩
 have B0:Hid (Below w.heap.size w w0):=by show Below _ _ _; rw [hw0]; exact (Below.refl _ _).alloc (Nat.le_refl _) _
 have Y0:Hid (w0.heap[w.heap.size]? = some (.cells #[.slice a n c] 40)):=by show _=_; rw [hw0]; exact heap_alloc_new w _
 have l0:w.heap.size<w0.heap.size:=(Array.getElem?_eq_some_iff.1 Y0.out).1
 have p0:w0.cell? ⟨w.heap.size,0,none⟩=some (.slice a n c):=(cell_of_row _ _ 0 _ 40 (0,0) Y0.out).trans rfl
 go_enter Tryz.func68,Tryz.ntmps68
 go_upto_region 1 with fail
 rw [← hw0]
 clear hw0
 go_wp2_with fail
 refine (implNameOk_any a n c sub _ (HK.out.kept B0.out) HZ.out).mono ?_
 rintro e w1 ⟨v1,rfl,hv1,hb1⟩
 have B1:Hid (Below w.heap.size w w1):=B0.out.trans (hb1.mono B0.out.size)
 have Y1:Hid (w1.heap[w.heap.size]? = some (.cells #[.slice a n c] 40)):=(hb1.block _ l0).trans Y0.out
 have HV1:Hid _:=hv1
 clear p0 hv1 hb1
 rcases v1 with _ | _
 ·have HN:Hid (¬ ownP sub nms):=fun q=>by have:=HV1.out.2 q.1; cases this
  go_wp2
  go_ret
  exact says_f HN.out B1.out
 have HS:Hid (nameP sub):=HV1.out.1 rfl
 clear HV1
 have p0:w1.cell? ⟨w.heap.size,0,none⟩=some (.slice a n c):=(cell_of_row _ _ 0 _ 40 (0,0) Y1.out).trans rfl
 have hwr:IntKind.i64.wrap ((n:Int)+(m:Int))=(n:Int)+(m:Int):=wrapC _ (by omega) (by omega)
 by_cases hnm:0<(n:Int)+(m:Int)
 case neg =>
  have HN:Hid (¬ ownP sub nms):=fun q=>by
   have h1:n=0:=by omega
   have h2:m=0:=by omega
   rcases q.2.1 with q | q
   ·exact q (List.eq_nil_of_length_eq_zero (by rw [HL.out]; exact h1))
   ·exact q (List.eq_nil_of_length_eq_zero (by rw [HL2.out]; exact h2))
  go_wp2
  go_ret
  exact says_f HN.out B1.out
 have HSM:Hid (sub≠[]∨nms≠[]):=by
  by_cases e:n=0
  ·exact .inr (fun q=>by have:=HL2.out; rw [q] at this; simp at this; omega)
  ·exact .inl (fun q=>by have:=HL.out; rw [q] at this; simp at this; omega)
 go_wp2_with fail
 refine (gensGen_any b m d nms _ (HM.out.kept B1.out) (HK2.out.kept B1.out) HZ2.out).mono ?_
 rintro e w2 ⟨v2,rfl,hv2,hb2⟩
 have B2:Hid (Below w.heap.size w w2):=B1.out.trans (hb2.mono B1.out.size)
 have HIF:Hid (v2=true↔ownP sub nms):=⟨fun e=>⟨HS.out,HSM.out,by rw [HL2.out]; exact hv2.out.1 e⟩,fun q=>hv2.out.2 (by have:=q.2.2; rw [HL2.out] at this; exact this)⟩
 clear p0 hv2 hb2
 go_wp2
 go_ret
 exact ⟨v2,rfl,HIF,B2.out⟩
end Go.Proofs.YtmdfbnlgfhjnoaaGreatDoor
