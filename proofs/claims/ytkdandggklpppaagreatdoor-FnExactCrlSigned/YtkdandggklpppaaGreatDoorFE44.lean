import Derived.Test.YtkdandggklpppaaGreatDoorFE43
set_option maxRecDepth 10000
set_option maxHeartbeats 8000000
set_option linter.unusedVariables false
namespace Go.Proofs.YtkdandggklpppaaGreatDoor
open Go.RowKit
theorem rowU_from {w:World}{g n:Nat}{zs:List Int}(h:RowU w (some ⟨g,0,none⟩) n zs)(k:Nat)(hk:k≤n):RowU w (some ⟨g,k,none⟩) (n - k) (zs.drop k):=by
 refine ⟨by rw [List.length_drop,h.len],fun i hi=>?_,fun i=>?_⟩
 ·obtain ⟨b',off',e,hb,hc⟩:=h.get (k+i) (by omega)
  simp only [Option.some.injEq,Addr.mk.injEq,and_true] at e
  obtain ⟨rfl,rfl⟩:=e
  exact ⟨g,k,rfl,hb,by rw [Nat.zero_add] at hc; exact hc.trans (by simp [List.getD_eq_getElem?_getD])⟩
 ·have:=h.rng (k+i)
  rw [List.getD_eq_getElem?_getD,List.getElem?_drop]
  simpa [List.getD_eq_getElem?_getD] using this
def vtP (y h:Int)(ms ss:List Int):Prop:=(getN ss 0).2.2=0∧(ss.length:Int) - (getN ss 0).2.1=8 * (18+h)∧tvP y h ms (getN ss 0).1 ((dgs (ss.drop (getN ss 0).2.1.toNat) (18+h).toNat).take 18) ((dgs (ss.drop (getN ss 0).2.1.toNat) (18+h).toNat).drop 18)
instance (y h:Int) (ms ss:List Int):Decidable (vtP y h ms ss):=by unfold vtP; infer_instance
theorem treeVerify_any (sc y h:Int)(am:Option Addr)(n c:Nat)(ms:List Int)(ag:Option Addr)(ng cg:Nat)(ss:List Int)(w:World)(hr:Row w am n ms)(hn:n≤1048576)(hg:Row w ag ng ss)(hng:ng≤1048576)(hcg:ng≤cg)(hh:hbP h) :
  Calls Tryz.prog 167 #[.agg #[],kpv sc y h,.slice am n c,.slice ag ng cg] w fun e w'=>e=.returned (.bool (decide (vtP y h ms ss)))∧Below w.heap.size w w':=by
 obtain ⟨hh0,hh5⟩:=hh
 obtain ⟨wb,hwb⟩:∃ wb,wb=(w.alloc (.cells #[] 144)).alloc (.cells #[.int .i64 sc,.int .u64 y,.int .i64 h] 41):=⟨_,rfl⟩
 have hbb:Below w.heap.size w wb:=by rw [hwb]; exact two_below _ _ _
 have hbx:wb.heap[w.heap.size+1]? = some (.cells #[.int .i64 sc,.int .u64 y,.int .i64 h] 41):=by rw [hwb]; exact (two_blocks w _ _).2
 have hlw:w.heap.size+1<wb.heap.size:=(Array.getElem?_eq_some_iff.1 hbx).1
 have HXD:∀ w7,Below wb.heap.size wb w7→w7.cell? ⟨w.heap.size+1,1,none⟩=some (.int .u64 y)∧w7.cell? ⟨w.heap.size+1,2,none⟩=some (.int .i64 h):=by
  intro w7 h7
  have e0:=(h7.block _ hlw).trans hbx
  exact ⟨(cell_of_row _ _ 1 _ 41 (0,0) e0).trans rfl,(cell_of_row _ _ 2 _ 41 (0,0) e0).trans rfl⟩
 have HW:Hid (_=_):=hwb
 have HG:Hid (Row wb ag ng ss):=hg.kept hbb
 have HM:Hid (Row wb am n ms):=hr.kept hbb
 have HL:Hid (ss.length=ng):=hg.len
 obtain ⟨t1,ht1⟩:∃ t1,t1=getN ss 0:=⟨_,rfl⟩
 have H1:Hid (getN ss 0=t1):=ht1.symm
 have hpl:=getN_place ss 0
 rw [← ht1,HL.out] at hpl
 obtain ⟨leaf,at1,k1⟩:=t1
 simp only at hpl
 obtain ⟨q1,q2⟩:=HXD _ (Below.refl _ _)
 clear hwb hg hr hbx ht1
 unfold kpv
 go_enter Tryz.func167,Tryz.ntmps167
 go_upto_region 1 with fail
 rw [← HW.out]
 clear HW
 go_wp2_with fail
 refine (implGetNum_any ag ng cg ss 0 _ HG.out (by omega)).mono ?_
 rintro e w2 ⟨rfl,hw⟩
 have hw2:=hw.symm
 subst hw2
 rw [H1.out,trip]
 by_cases hk1:k1=0
 ·have z1:(k1 != 0)=false:=by simp [hk1]
  obtain ⟨hp0,hp1⟩:=hpl hk1
  obtain ⟨A,rfl⟩:=Int.eq_ofNat_of_zero_le hp0
  have hA:A≤ng:=by omega
  by_cases ha:(ng:Int) - (A:Int)=8 * (18+h)
  ·have z3:((ng:Int) - (A:Int) != 8 * (18+h))=false:=by simp [ha]
   obtain ⟨m,hm⟩:∃ m,m=(18+h).toNat:=⟨_,rfl⟩
   have hmh:(m:Int)=18+h:=by omega
   have hn8:(ng - A) / 8=m:=by omega
   have HE:Hid (vtP y h ms ss↔tvP y h ms leaf ((dgs (ss.drop A) m).take 18) ((dgs (ss.drop A) m).drop 18)):=by
    show _↔_
    unfold vtP
    rw [H1.out,HL.out,← hm]
    exact ⟨fun x=>x.2.2,fun x=>⟨hk1,ha,x⟩⟩
   obtain ⟨b,off,rfl,_,_⟩:=HG.out.get 0 (by omega)
   have HS:Hid (Row wb (some ⟨b,off+A,none⟩) (ng - A) (ss.drop A)):=HG.out.drop A hA
   have hA2:(A:Int)≤(ng:Int):=by omega
   have hA3:(A:Int)≤(cg:Int):=by omega
   have HA:Hid ((ng:Int) - (A:Int)=8 * (18+h)):=ha
   clear ha hk1 hm hpl hp0 hp1
   go_upto_region 4 with fail
   go_wp2_with fail
   refine (readDigests_any _ (ng - A) (cg - A) (ss.drop A) _ HS.out (by omega) (by omega)).mono ?_
   rintro e w3 ⟨ar,rfl,hod,hb3⟩
   rw [hn8] at hod ⊢
   obtain ⟨g,rfl,hgl,hgs⟩:=hod.shape (by omega)
   have HD1:Hid (∀ w7,Below w3.heap.size w3 w7→RowU w7 (some ⟨g,0,none⟩) 18 ((dgs (ss.drop A) m).take 18)):=fun w7 h7=>(hod.toRow.take 18 (by omega)).kept h7
   have HM3:Hid (∀ w7,Below w3.heap.size w3 w7→Row w7 am n ms):=fun w7 h7=>HM.out.kept (keepT hb3 h7)
   have hm18:18≤m:=by omega
   have hm18i:(18:Int)≤(m:Int):=by omega
   by_cases e18:m=18
   ·subst e18
    have HD2:Hid (∀ w7,Below w3.heap.size w3 w7→RowU w7 (some ⟨g,0,none⟩) 0 ((dgs (ss.drop A) 18).drop 18)):=by
     intro w7 h7
     have h1:=(rowU_from hod.toRow 18 (by omega)).kept h7
     exact ⟨h1.len,fun k hk=>by omega,h1.rng⟩
    have hdr:Below w3.heap.size w3 w3.drew:=(Below.refl _ _).drew
    have T0:=HXD _ hb3
    have T1:=HXD _ (keepT hb3 hdr)
    clear hod q1 q2
    go_upto_region 5 with fail
    go_region_held_law (fun w7=>w7.cell? ⟨w.heap.size+1,1,none⟩=some (.int .u64 y)∧w7.cell? ⟨w.heap.size+1,2,none⟩=some (.int .i64 h)) (first | assumption | exact T0 | exact T1 | exact T2)
     (first
      | (go_at_call 169; refine (implTreeVerify_any y h am n c ms leaf (some ⟨g,0,none⟩) 18 18 ((dgs (ss.drop A) 18).take 18) (some ⟨g,0,none⟩) 0 0 ((dgs (ss.drop A) 18).drop 18) _ (HM3.out _ hdr) (by omega) (HD1.out _ hdr) (HD2.out _ hdr)).mono ?_; rintro e w4 ⟨rfl,hb4⟩; have hb34:=keepT hdr hb4; have T2:=HXD _ (keepT hb3 hb34)))
    all_goals
     go_wp2
     go_ret
     exact ⟨by rw [decide_eq_decide.2 HE.out]; rfl,keepT hbb (keepT hb3 hb34)⟩
   ·have HD2:Hid (∀ w7,Below w3.heap.size w3 w7→RowU w7 (some ⟨g,18,none⟩) (m - 18) ((dgs (ss.drop A) m).drop 18)):=fun w7 h7=>(rowU_from hod.toRow 18 (by omega)).kept h7
    have hdr:Below w3.heap.size w3 w3.drew:=(Below.refl _ _).drew
    have T0:=HXD _ hb3
    have T1:=HXD _ (keepT hb3 hdr)
    clear hod q1 q2
    go_upto_region 5 with fail
    go_region_held_law (fun w7=>w7.cell? ⟨w.heap.size+1,1,none⟩=some (.int .u64 y)∧w7.cell? ⟨w.heap.size+1,2,none⟩=some (.int .i64 h)) (first | assumption | exact T0 | exact T1 | exact T2)
     (first
      | (go_at_call 169; refine (implTreeVerify_any y h am n c ms leaf (some ⟨g,0,none⟩) 18 m ((dgs (ss.drop A) m).take 18) (some ⟨g,18,none⟩) (m - 18) (m - 18) ((dgs (ss.drop A) m).drop 18) _ (HM3.out _ hdr) (by omega) (HD1.out _ hdr) (HD2.out _ hdr)).mono ?_; rintro e w4 ⟨rfl,hb4⟩; have hb34:=keepT hdr hb4; have T2:=HXD _ (keepT hb3 hb34)))
    all_goals
     go_wp2
     go_ret
     exact ⟨by rw [decide_eq_decide.2 HE.out]; rfl,keepT hbb (keepT hb3 hb34)⟩
  ·have z3:((ng:Int) - (A:Int) != 8 * (18+h))=true:=by simp [ha]
   have HE:Hid (decide (vtP y h ms ss)=false):=decide_eq_false (fun a=>ha (by have:=a.2.1; rw [H1.out,HL.out] at this; exact this))
   clear ha hk1 hpl
   go_wp2
   go_ret
   exact ⟨by rw [HE.out]; rfl,hbb⟩
 ·have z1:(k1 != 0)=true:=by simp [hk1]
  have HE:Hid (decide (vtP y h ms ss)=false):=decide_eq_false (fun a=>hk1 (by have:=a.1; rw [H1.out] at this; exact this))
  clear hk1 hpl
  go_wp2
  go_ret
  exact ⟨by rw [HE.out]; rfl,hbb⟩
end Go.Proofs.YtkdandggklpppaaGreatDoor
