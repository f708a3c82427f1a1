import Derived.Test.YtmdfbnlgfhjnoaaGreatDoorFC45
import Derived.Test.YtmdfbnlgfhjnoaaGreatDoorFC35
set_option maxRecDepth 10000
set_option maxHeartbeats 8000000
set_option linter.unusedVariables false
namespace Go.Proofs.YtmdfbnlgfhjnoaaGreatDoor
open Go.RowKit
def anyP (sc y h:Int)(ms ss:List Int):Prop:=(sc=1∧gkP y h∧vgP y ms ss)∨(sc=2∧hbP h∧vtP y h ms ss)
instance (sc y h:Int) (ms ss:List Int):Decidable (anyP sc y h ms ss):=by unfold anyP; infer_instance
theorem implVerifyAny_any (sc y h:Int)(am:Option Addr)(n c:Nat)(ms:List Int)(ag:Option Addr)(ng cg:Nat)(ss:List Int)(w:World)(hy:U64 y)(hr:Row w am n ms)(hn:n≤1048576)(hc:am=none→c=0)(hg:Row w ag ng ss)(hng:ng≤1048576)(hcg:ng≤cg) :
  Calls Tryz.prog 64 #[kpv sc y h,.slice am n c,.slice ag ng cg] w fun e w'=>e=.returned (.bool (decide (anyP sc y h ms ss)))∧Below w.heap.size w w':=by
 obtain ⟨wb,hwb⟩:∃ wb,wb=w.alloc (.cells #[.int .i64 sc,.int .u64 y,.int .i64 h] 41):=⟨_,rfl⟩
 have hbb:Below w.heap.size w wb:=by rw [hwb]; exact (Below.refl _ _).alloc (Nat.le_refl _) _
 have hbx:wb.heap[w.heap.size]? = some (.cells #[.int .i64 sc,.int .u64 y,.int .i64 h] 41):=by rw [hwb]; exact heap_alloc_new _ _
 have hlw:w.heap.size<wb.heap.size:=(Array.getElem?_eq_some_iff.1 hbx).1
 have HX:Hid (∀ w7,Below wb.heap.size wb w7→w7.heap[w.heap.size]? = some (.cells #[.int .i64 sc,.int .u64 y,.int .i64 h] 41)):=fun w7 h7=>(h7.block _ hlw).trans hbx
 have HW:Hid (_=_):=hwb
 have HM:Hid (∀ w7,Below wb.heap.size wb w7→Row w7 am n ms):=fun w7 h7=>hr.kept (keepT hbb h7)
 have HG:Hid (∀ w7,Below wb.heap.size wb w7→Row w7 ag ng ss):=fun w7 h7=>hg.kept (keepT hbb h7)
 clear hwb hg hr hbx
 unfold kpv
 go_enter Tryz.func64,Tryz.ntmps64
 go_wp2_with fail
 rw [← HW.out]
 clear HW
 refine (pubScheme_any sc y h _ hy).mono ?_
 rintro e w2 ⟨rfl,hb2⟩
 have hs:=HX.out _ hb2
 have s0:w2.cell? ⟨w.heap.size,0,none⟩=some (.int .i64 sc):=(cell_of_row _ _ 0 _ 41 (0,0) hs).trans rfl
 have s1:w2.cell? ⟨w.heap.size,1,none⟩=some (.int .u64 y):=(cell_of_row _ _ 1 _ 41 (0,0) hs).trans rfl
 have s2:w2.cell? ⟨w.heap.size,2,none⟩=some (.int .i64 h):=(cell_of_row _ _ 2 _ 41 (0,0) hs).trans rfl
 clear hs
 by_cases hp:pubP sc y h
 ·rw [decide_eq_true hp]
  rcases hp with ⟨h1,hp⟩ | ⟨h1,hp⟩
  ·subst h1
   have HV:Hid (decide (anyP 1 y h ms ss)=decide (vgP y ms ss)):=decide_eq_decide.2 ⟨fun a=>a.elim (fun a=>a.2.2) (fun a=>absurd a.1 (by decide)),fun a=>.inl ⟨rfl,hp,a⟩⟩
   have HI:Hid (ifvP 1=.iface 220 (.agg #[])):=rfl
   rw [HI.out]
   go_wp2_with fail
   refine (groupVerify_any 1 y h am n c ms ag ng cg ss _ (HM.out _ hb2) hn hc (HG.out _ hb2) hng hp.1).mono ?_
   rintro e w3 ⟨rfl,hb3⟩
   go_wp2
   go_ret
   exact ⟨by rw [HV.out]; rfl,keepT hbb (keepT hb2 hb3)⟩
  ·subst h1
   have HV:Hid (decide (anyP 2 y h ms ss)=decide (vtP y h ms ss)):=decide_eq_decide.2 ⟨fun a=>a.elim (fun a=>absurd a.1 (by decide)) (fun a=>a.2.2),fun a=>.inr ⟨rfl,hp,a⟩⟩
   have HI:Hid (ifvP 2=.iface 221 (.agg #[])):=rfl
   rw [HI.out]
   go_wp2_with fail
   refine (treeVerify_any 2 y h am n c ms ag ng cg ss _ (HM.out _ hb2) hn (HG.out _ hb2) hng hcg hp).mono ?_
   rintro e w3 ⟨rfl,hb3⟩
   go_wp2
   go_ret
   exact ⟨by rw [HV.out]; rfl,keepT hbb (keepT hb2 hb3)⟩
 ·have HV:Hid (decide (anyP sc y h ms ss)=false):=decide_eq_false (fun a=>hp (a.elim (fun a=>.inl ⟨a.1,a.2.1⟩) (fun a=>.inr ⟨a.1,a.2.1⟩)))
  rw [decide_eq_false hp]
  go_wp2
  go_ret
  exact ⟨by rw [HV.out]; rfl,keepT hbb hb2⟩
open Go.ChangeShapes Go.WideShapes Go.ChangeAt Go.RowKit
set_option maxRecDepth 20000 in
theorem open_sigN {H:Type}{enc:TypeId × Value→H}{W:World}{fuel:Nat}{cs:List Value}{x:DataW H × List MemPlace}(h:DataW.trod enc Tryz.prog W 0 (fun _=>true) true fuel 32 cs=some x):∃ a n c bs,cs = [.slice a n c]∧Row W a n bs∧n≤9223372036854775807∧(a=none→c=0):=by
 rcases open_ints Tryz.underlying32 Tryz.underlying5 (by kernel_rfl) h with ⟨rfl,_⟩ | ⟨a,len,cap,zs,rfl,_,hl,hm,hz,_,hc,hw⟩
 ·exact ⟨none,0,0,[],rfl,⟨rfl,fun k hk=>absurd hk (Nat.not_lt_zero _),by simp⟩,by decide,fun _=>rfl⟩
 ·have hr:IsRow .u8 W (some a) len cap zs:=.inr ⟨a,rfl,hl,hm,by simpa using hz,hc,hw⟩
  exact ⟨some a,len,cap,zs.take len,rfl,hr.row.1,by unfold maxLen at hm; omega,fun e=>by cases e⟩
set_option maxRecDepth 20000 in
theorem open_Req {H:Type}{enc:TypeId × Value→H}{W:World}{fuel:Nat}{cs:List Value}{x:DataW H × List MemPlace}(h:DataW.trod enc Tryz.prog W 0 (fun _=>true) true fuel 58 cs=some x):∃ (s:RQS) (y:RQ),cs = [.slice s.a1 s.n1 s.c1,.slice s.a2 s.n2 s.c2,.int .i64 y.key.1,.int .u64 y.key.2.1,.int .i64 y.key.2.2,.slice s.a3 s.n3 s.c3]∧RQR W s y∧U64 (y.key.2.1):=by
 obtain ⟨xs,m,rfl,_,hl,hxl,hf⟩:=DataW.trod_struct Tryz.underlying58 h
 have hl2:cs.length=6:=hl.trans (by kernel_rfl)
 have hx2:xs.length=4:=hxl
 obtain ⟨c0,c1,c2,c3,c4,c5,rfl⟩:∃ c0 c1 c2 c3 c4 c5,cs = [c0,c1,c2,c3,c4,c5]:=by
  match cs,hl2 with
  | [c0,c1,c2,c3,c4,c5],_=>exact ⟨c0,c1,c2,c3,c4,c5,rfl⟩
 obtain ⟨x0,x1,x2,x3,rfl⟩:∃ y0 y1 y2 y3,xs = [y0,y1,y2,y3]:=by
  match xs,hx2 with
  | [y0,y1,y2,y3],_=>exact ⟨y0,y1,y2,y3,rfl⟩
 have e0:Tryz.prog.cellsOf 24=1:=by kernel_rfl
 have f0:DataW.trod enc Tryz.prog W 0 (fun _=>true) true m 24 ((([c0,c1,c2,c3,c4,c5]:List Value).drop 0).take (Tryz.prog.cellsOf 24))=some x0:=hf 0 _ rfl
 rw [e0] at f0
 have e1:Tryz.prog.cellsOf 28=1:=by kernel_rfl
 have f1:DataW.trod enc Tryz.prog W 0 (fun _=>true) true m 28 ((([c0,c1,c2,c3,c4,c5]:List Value).drop 1).take (Tryz.prog.cellsOf 28))=some x1:=hf 1 _ rfl
 rw [e1] at f1
 have e2:Tryz.prog.cellsOf 27=3:=by kernel_rfl
 have f2:DataW.trod enc Tryz.prog W 0 (fun _=>true) true m 27 ((([c0,c1,c2,c3,c4,c5]:List Value).drop 2).take (Tryz.prog.cellsOf 27))=some x2:=hf 2 _ rfl
 rw [e2] at f2
 have e3:Tryz.prog.cellsOf 32=1:=by kernel_rfl
 have f3:DataW.trod enc Tryz.prog W 0 (fun _=>true) true m 32 ((([c0,c1,c2,c3,c4,c5]:List Value).drop 5).take (Tryz.prog.cellsOf 32))=some x3:=hf 3 _ rfl
 rw [e3] at f3
 obtain ⟨b1,m1,d1,v0,h0,r1⟩:=open_name f0
 obtain ⟨b2,m2,d2,v1,h1,r2⟩:=open_gens f1
 obtain ⟨v2,y2,k2,h2,g2⟩:=open_pub f2
 obtain ⟨b3,m3,d3,v3,h3,r3,z3,nl3⟩:=open_sigN f3
 simp at h0 h1 h2 h3
 subst h0
 subst h1
 obtain ⟨rfl,rfl,rfl⟩:=h2
 subst h3
 exact ⟨⟨b1,m1,d1,b2,m2,d2,b3,m3,d3⟩,⟨v0,v1,(v2,y2,k2),v3⟩,rfl,⟨r1,r2,r3,z3,nl3⟩,g2⟩
end Go.Proofs.YtmdfbnlgfhjnoaaGreatDoor
