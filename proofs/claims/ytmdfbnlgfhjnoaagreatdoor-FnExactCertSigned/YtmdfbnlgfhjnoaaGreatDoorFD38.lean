import Derived.Test.YtmdfbnlgfhjnoaaGreatDoorFD37
set_option maxRecDepth 10000
set_option maxHeartbeats 8000000
set_option linter.unusedVariables false
namespace Go.Proofs.YtmdfbnlgfhjnoaaGreatDoor
open Go.RowKit Go.Sort
def GeW (y:GE):Prop:=(W64 y.g.kind∧W64 y.g.addr∧W64 y.g.bits)∧(∀ j,j<y.parts.length→W64 (y.parts.getD j default).attr)∧y.parts.length≤1000
def genitemr (y:GE)(an:Option Addr)(nn cn:Nat)(L R G B:Nat):RSpec where
 m:=18
 n:=20
 slots:=[3,4,5,6,7,8,9,10,11,12,13,14,15,16,17,18,19,100017,100018,100019]
 kills:=[[],[],[],[],[],[],[],[],[],[],[],[],[],[],[],[],[],[],[],[17]]
 pres:=[[],[],[],[],[],[],[],[],[],[],[],[],[],[],[],[],[],[],[],[]]
 fact:=fun k v w=>match k with
  | 0=>v=.pointer (some ⟨G,0,none⟩)
  | 1=>v=.int .i64 y.g.kind
  | 2=>∃ a1 n1 c1 k1 m1 e1,v=.agg #[.int .i64 (numI y.g.kind).cls,.int .i64 (numI y.g.kind).tag,.bool (numI y.g.kind).cons,.slice a1 n1 c1,.slice k1 m1 e1]∧ItZ L R 4 w (numI y.g.kind) a1 n1 c1 k1 m1 e1∧L≤G∧G+1<R
  | 3=>v=.pointer (some ⟨G,1,none⟩)
  | 4=>v=.string y.g.text
  | 5=>∃ a2 n2 c2 k2 m2 e2,v=.agg #[.int .i64 (bytI (bytesOf y.g.text)).cls,.int .i64 (bytI (bytesOf y.g.text)).tag,.bool (bytI (bytesOf y.g.text)).cons,.slice a2 n2 c2,.slice k2 m2 e2]∧ItZ L R 4 w (bytI (bytesOf y.g.text)) a2 n2 c2 k2 m2 e2∧L≤G∧G+1<R
  | 6=>v=.pointer (some ⟨G,2,none⟩)
  | 7=>v=.int .i64 y.g.addr
  | 8=>∃ a3 n3 c3 k3 m3 e3,v=.agg #[.int .i64 (numI y.g.addr).cls,.int .i64 (numI y.g.addr).tag,.bool (numI y.g.addr).cons,.slice a3 n3 c3,.slice k3 m3 e3]∧ItZ L R 4 w (numI y.g.addr) a3 n3 c3 k3 m3 e3∧L≤G∧G+1<R
  | 9=>v=.pointer (some ⟨G,3,none⟩)
  | 10=>v=.int .i64 y.g.bits
  | 11=>∃ a4 n4 c4 k4 m4 e4,v=.agg #[.int .i64 (numI y.g.bits).cls,.int .i64 (numI y.g.bits).tag,.bool (numI y.g.bits).cons,.slice a4 n4 c4,.slice k4 m4 e4]∧ItZ L R 4 w (numI y.g.bits) a4 n4 c4 k4 m4 e4∧L≤G∧G+1<R
  | 12=>v=.pointer (some ⟨G,4,none⟩)
  | 13=>v=.agg #[.slice an nn cn]
  | 14=>∃ a5 n5 c5 k5 m5 e5,v=.agg #[.int .i64 (namI y.parts).cls,.int .i64 (namI y.parts).tag,.bool (namI y.parts).cons,.slice a5 n5 c5,.slice k5 m5 e5]∧ItZ L R 4 w (namI y.parts) a5 n5 c5 k5 m5 e5∧L≤G∧G+1<R
  | 15=>∃ gr,v=.slice (some ⟨gr,0,none⟩) 5 5∧KidZ L R w gr 5 [numI y.g.kind,bytI (bytesOf y.g.text),numI y.g.addr,numI y.g.bits,namI y.parts]∧L≤G∧G+1<R
  | 16=>∃ a0 n0 c0 k0 m0 e0,v=.agg #[.int .i64 (gneI y).cls,.int .i64 (gneI y).tag,.bool (gneI y).cons,.slice a0 n0 c0,.slice k0 m0 e0]∧ItZ L R 5 w (gneI y) a0 n0 c0 k0 m0 e0∧L≤G∧G+1<R
  | 17=>∃ a0 n0 c0 k0 m0 e0,w.heap[(G+1)]? = some (.cells #[.int .i64 (gneI y).cls,.int .i64 (gneI y).tag,.bool (gneI y).cons,.slice a0 n0 c0,.slice k0 m0 e0] 75 (0,0))∧ItZ L R 5 w (gneI y) a0 n0 c0 k0 m0 e0∧L≤G∧G+1<R
  | 18=>w.heap[G]? = some (.cells #[.int .i64 y.g.kind,.string y.g.text,.int .i64 y.g.addr,.int .i64 y.g.bits,.slice an nn cn] 127 (0,0))
  | _=>w.heap[(G+1)]? = some (.cells #[.int .i64 0,.int .i64 0,.bool false,.slice none 0 0,.slice none 0 0] 75 (0,0))
theorem genitemr_stb (y:GE)(an:Option Addr)(nn cn:Nat)(L R G B:Nat)(k:Nat)(hk:k<20):StB ((genitemr y an nn cn L R G (B)).fact k):=by
 match k,hk with
 | 0,_=>exact fun _ _ _ h _=>h
 | 1,_=>exact fun _ _ _ h _=>h
 | 2,_=>exact fun _ _ _ ⟨a1,n1,c1,k1,m1,e1,hv,q_0,q_1⟩ hb=>⟨a1,n1,c1,k1,m1,e1,hv,q_0.kept hb,q_1⟩
 | 3,_=>exact fun _ _ _ h _=>h
 | 4,_=>exact fun _ _ _ h _=>h
 | 5,_=>exact fun _ _ _ ⟨a2,n2,c2,k2,m2,e2,hv,q_0,q_1⟩ hb=>⟨a2,n2,c2,k2,m2,e2,hv,q_0.kept hb,q_1⟩
 | 6,_=>exact fun _ _ _ h _=>h
 | 7,_=>exact fun _ _ _ h _=>h
 | 8,_=>exact fun _ _ _ ⟨a3,n3,c3,k3,m3,e3,hv,q_0,q_1⟩ hb=>⟨a3,n3,c3,k3,m3,e3,hv,q_0.kept hb,q_1⟩
 | 9,_=>exact fun _ _ _ h _=>h
 | 10,_=>exact fun _ _ _ h _=>h
 | 11,_=>exact fun _ _ _ ⟨a4,n4,c4,k4,m4,e4,hv,q_0,q_1⟩ hb=>⟨a4,n4,c4,k4,m4,e4,hv,q_0.kept hb,q_1⟩
 | 12,_=>exact fun _ _ _ h _=>h
 | 13,_=>exact fun _ _ _ h _=>h
 | 14,_=>exact fun _ _ _ ⟨a5,n5,c5,k5,m5,e5,hv,q_0,q_1⟩ hb=>⟨a5,n5,c5,k5,m5,e5,hv,q_0.kept hb,q_1⟩
 | 15,_=>exact fun _ _ _ ⟨gr,hv,q_0,q_1⟩ hb=>⟨gr,hv,q_0.kept hb,q_1⟩
 | 16,_=>exact fun _ _ _ ⟨a0,n0,c0,k0,m0,e0,hv,q_0,q_1⟩ hb=>⟨a0,n0,c0,k0,m0,e0,hv,q_0.kept hb,q_1⟩
 | 17,_=>exact fun _ _ _ ⟨a0,n0,c0,k0,m0,e0,q_0,q_1,q_2⟩ hb=>⟨a0,n0,c0,k0,m0,e0,below_kept q_0 hb,q_1.kept hb,q_2⟩
 | 18,_=>exact fun _ _ _ q_0 hb=>below_kept q_0 hb
 | 19,_=>exact fun _ _ _ q_0 hb=>below_kept q_0 hb
 | k+20,hk=>omega
theorem genitemr_st17 (y:GE)(an:Option Addr)(nn cn:Nat)(L R G B:Nat){W W2:World}{cs:Array Value}{fr:Nat × Nat}(hg:W.heap[(G+1)]? = some (.cells cs 75 fr))(ht:Touch ((G+1)) ((G+1)+1) W W2)(k:Nat)(hk:k<20)(hne:k≠17)(hkill:17∉(genitemr y an nn cn L R G (B)).kill k)(v:Value)(hfact:(genitemr y an nn cn L R G (B)).fact k v W):(genitemr y an nn cn L R G (B)).fact k v W2:=by
 match k,hk,hne,hkill,hfact with
 | 0,_,_,_,hq=>exact hq
 | 1,_,_,_,hq=>exact hq
 | 2,_,_,_,⟨a1,n1,c1,k1,m1,e1,hv,q_0,q_1⟩=>exact ⟨a1,n1,c1,k1,m1,e1,hv,q_0.touched ht (by omega),q_1⟩
 | 3,_,_,_,hq=>exact hq
 | 4,_,_,_,hq=>exact hq
 | 5,_,_,_,⟨a2,n2,c2,k2,m2,e2,hv,q_0,q_1⟩=>exact ⟨a2,n2,c2,k2,m2,e2,hv,q_0.touched ht (by omega),q_1⟩
 | 6,_,_,_,hq=>exact hq
 | 7,_,_,_,hq=>exact hq
 | 8,_,_,_,⟨a3,n3,c3,k3,m3,e3,hv,q_0,q_1⟩=>exact ⟨a3,n3,c3,k3,m3,e3,hv,q_0.touched ht (by omega),q_1⟩
 | 9,_,_,_,hq=>exact hq
 | 10,_,_,_,hq=>exact hq
 | 11,_,_,_,⟨a4,n4,c4,k4,m4,e4,hv,q_0,q_1⟩=>exact ⟨a4,n4,c4,k4,m4,e4,hv,q_0.touched ht (by omega),q_1⟩
 | 12,_,_,_,hq=>exact hq
 | 13,_,_,_,hq=>exact hq
 | 14,_,_,_,⟨a5,n5,c5,k5,m5,e5,hv,q_0,q_1⟩=>exact ⟨a5,n5,c5,k5,m5,e5,hv,q_0.touched ht (by omega),q_1⟩
 | 15,_,_,_,⟨gr,hv,q_0,q_1⟩=>exact ⟨gr,hv,q_0.touched ht (by omega),q_1⟩
 | 16,_,_,_,⟨a0,n0,c0,k0,m0,e0,hv,q_0,q_1⟩=>exact ⟨a0,n0,c0,k0,m0,e0,hv,q_0.touched ht (by omega),q_1⟩
 | 17,_,hne,_,_=>exact absurd rfl hne
 | 18,_,_,_,q_0=>exact box_box q_0 hg (by decide) ht
 | 19,_,_,hkill,_=>exact absurd (List.Mem.head _) hkill
 | k+20,hk,_,_,_=>omega
theorem genItem_R (y:GE)(an:Option Addr)(nn cn:Nat)(L:Nat)(w:World)(hLw:L≤w.heap.size)(h:Pts w an nn y.parts)(hw:W64 y.g.kind∧W64 y.g.addr∧W64 y.g.bits)(hs:y.g.text.size≤9223372036854775807)(ha:∀ k,k<nn→W64 (y.parts.getD k default).attr)(hn:nn≤1000) :
  Calls Tryz.prog 106 #[.agg #[.int .i64 y.g.kind,.string y.g.text,.int .i64 y.g.addr,.int .i64 y.g.bits,.slice an nn cn]] w fun e w'=>ItR L w.heap.size 5 (gneI y) e w'∧Below w.heap.size w w':=by
 obtain ⟨w1,hw1⟩:∃ w1,w1=(w.alloc (.cells #[.int .i64 y.g.kind,.string y.g.text,.int .i64 y.g.addr,.int .i64 y.g.bits,.slice an nn cn] 127)).alloc (.cells #[.int .i64 0,.int .i64 0,.bool false,.slice none 0 0,.slice none 0 0] 75):=⟨_,rfl⟩
 have hbb:Below w.heap.size w w1:=by rw [hw1]; exact ((Below.refl _ _).alloc (Nat.le_refl _) _).alloc (by simp) _
 have HB1:Hid (_∧_):=two_blocks w (.cells #[.int .i64 y.g.kind,.string y.g.text,.int .i64 y.g.addr,.int .i64 y.g.bits,.slice an nn cn] 127) (.cells #[.int .i64 0,.int .i64 0,.bool false,.slice none 0 0,.slice none 0 0] 75)
 rw [← hw1] at HB1
 have hsz:w1.heap.size=w.heap.size+2:=by rw [hw1]; simp
 have HGB:L≤w.heap.size∧w.heap.size+1<w1.heap.size:=⟨hLw,by omega⟩
 have HLB:∀ W,Below w.heap.size w1 W→L≤W.heap.size:=fun W hW=>by have:=hW.size; omega
 have HBB:w.heap.size≤w1.heap.size:=hbb.size
 have HW:Hid (_=_):=hw1
 clear hw1
 go_enter Tryz.func106,Tryz.ntmps106
 go_upto_region 1 with fail
 rw [← HW.out]
 clear HW
 have stb:=genitemr_stb y an nn cn L w1.heap.size w.heap.size (w.heap.size)
 refine wp_region_ri (genitemr y an nn cn L w1.heap.size w.heap.size (w.heap.size)) [3,4,5,6,7,8,9,10,11,12,13,14,15,16,17,18,19] (w.heap.size) (fun a0=>a0.tmps.size=20∧aT a0 1=.pointer (some ⟨w.heap.size,0,none⟩)∧aT a0 2=.pointer (some ⟨(w.heap.size+1),0,none⟩)) (by kernel_rfl) rfl (by kernel_rfl) rfl ⟨rfl,rfl,rfl⟩ stb ?_ ?_ ?_
 ·exact vt2 (m:=18) (HB1.out.1) (HB1.out.2)
 ·rintro a0 ⟨hz,g1,g2⟩
  refine StepsRI.cons ?_ (StepsRI.cons ?_ (StepsRI.cons ?_ (StepsRI.cons ?_ (StepsRI.cons ?_ (StepsRI.cons ?_ (StepsRI.cons ?_ (StepsRI.cons ?_ (StepsRI.cons ?_ (StepsRI.cons ?_ (StepsRI.cons ?_ (StepsRI.cons ?_ (StepsRI.cons ?_ (StepsRI.cons ?_ (StepsRI.cons ?_ (StepsRI.cons ?_ (StepsRI.cons ?_ (StepsRI.cons ?_ (StepsRI.nil))))))))))))))))))
  all_goals intro lQ b W hI hUN hED KQ hKQ
  ·exact opw_field 127 1 0 rfl _ ((hI.fr.same 1 (by decide)).trans g1) _ (by kernel_rfl) (hKQ.out _ _ (hI.pu 0 3 hz hUN HBB stb (Below.refl _ _) rfl))
  ·have f:=hI.ge 0 hED
   have hg:=(hI.vo 18)
   have hc:W.cell? ⟨w.heap.size,0,none⟩=some (.int .i64 y.g.kind):=qk hg rfl
   exact opw_load1 2 3 rfl _ f _ (by simp [Instr.loadAt,go_sem,hc]) (hKQ.out _ _ (hI.pu 1 4 hz hUN HBB stb (Below.refl _ _) rfl))
  ·have f0:aT b 4=.int .i64 y.g.kind:=hI.ge 1 hED
   refine opw_c1 101 4 Tryz.func101 f0 ?_
   refine (numberItem_R y.g.kind L W hw.1).mono ?_
   rintro r W2 ⟨⟨a1,n1,c1,k1,m1,e1,rfl,hzI⟩,hb⟩
   exact ⟨_,rfl,hKQ.out _ _ (hI.pu 2 5 hz hUN HBB stb hb ⟨a1,n1,c1,k1,m1,e1,rfl,((hzI.mono hI.bel.size).le (by decide)),HGB⟩)⟩
  ·exact opw_field 127 1 1 rfl _ ((hI.fr.same 1 (by decide)).trans g1) _ (by kernel_rfl) (hKQ.out _ _ (hI.pu 3 6 hz hUN HBB stb (Below.refl _ _) rfl))
  ·have f:=hI.ge 3 hED
   have hg:=(hI.vo 18)
   have hc:W.cell? ⟨w.heap.size,1,none⟩=some (.string y.g.text):=qk hg rfl
   exact opw_load1 9 6 rfl _ f _ (by simp [Instr.loadAt,go_sem,hc]) (hKQ.out _ _ (hI.pu 4 7 hz hUN HBB stb (Below.refl _ _) rfl))
  ·have f0:aT b 7=.string y.g.text:=hI.ge 4 hED
   refine opw_c1 158 7 Tryz.func158 f0 ?_
   refine (textItem_R y.g.text L W hs (HLB W hI.bel)).mono ?_
   rintro r W2 ⟨⟨a2,n2,c2,k2,m2,e2,rfl,hzI⟩,hb⟩
   exact ⟨_,rfl,hKQ.out _ _ (hI.pu 5 8 hz hUN HBB stb hb ⟨a2,n2,c2,k2,m2,e2,rfl,((hzI.mono hI.bel.size).le (by decide)),HGB⟩)⟩
  ·exact opw_field 127 1 2 rfl _ ((hI.fr.same 1 (by decide)).trans g1) _ (by kernel_rfl) (hKQ.out _ _ (hI.pu 6 9 hz hUN HBB stb (Below.refl _ _) rfl))
  ·have f:=hI.ge 6 hED
   have hg:=(hI.vo 18)
   have hc:W.cell? ⟨w.heap.size,2,none⟩=some (.int .i64 y.g.addr):=qk hg rfl
   exact opw_load1 2 9 rfl _ f _ (by simp [Instr.loadAt,go_sem,hc]) (hKQ.out _ _ (hI.pu 7 10 hz hUN HBB stb (Below.refl _ _) rfl))
  ·have f0:aT b 10=.int .i64 y.g.addr:=hI.ge 7 hED
   refine opw_c1 101 10 Tryz.func101 f0 ?_
   refine (numberItem_R y.g.addr L W hw.2.1).mono ?_
   rintro r W2 ⟨⟨a3,n3,c3,k3,m3,e3,rfl,hzI⟩,hb⟩
   exact ⟨_,rfl,hKQ.out _ _ (hI.pu 8 11 hz hUN HBB stb hb ⟨a3,n3,c3,k3,m3,e3,rfl,((hzI.mono hI.bel.size).le (by decide)),HGB⟩)⟩
  ·exact opw_field 127 1 3 rfl _ ((hI.fr.same 1 (by decide)).trans g1) _ (by kernel_rfl) (hKQ.out _ _ (hI.pu 9 12 hz hUN HBB stb (Below.refl _ _) rfl))
  ·have f:=hI.ge 9 hED
   have hg:=(hI.vo 18)
   have hc:W.cell? ⟨w.heap.size,3,none⟩=some (.int .i64 y.g.bits):=qk hg rfl
   exact opw_load1 2 12 rfl _ f _ (by simp [Instr.loadAt,go_sem,hc]) (hKQ.out _ _ (hI.pu 10 13 hz hUN HBB stb (Below.refl _ _) rfl))
  ·have f0:aT b 13=.int .i64 y.g.bits:=hI.ge 10 hED
   refine opw_c1 101 13 Tryz.func101 f0 ?_
   refine (numberItem_R y.g.bits L W hw.2.2).mono ?_
   rintro r W2 ⟨⟨a4,n4,c4,k4,m4,e4,rfl,hzI⟩,hb⟩
   exact ⟨_,rfl,hKQ.out _ _ (hI.pu 11 14 hz hUN HBB stb hb ⟨a4,n4,c4,k4,m4,e4,rfl,((hzI.mono hI.bel.size).le (by decide)),HGB⟩)⟩
  ·exact opw_field 127 1 4 rfl _ ((hI.fr.same 1 (by decide)).trans g1) _ (by kernel_rfl) (hKQ.out _ _ (hI.pu 12 15 hz hUN HBB stb (Below.refl _ _) rfl))
  ·have f:aT b 15=.pointer (some ⟨w.heap.size,4,none⟩):=hI.ge 12 hED
   have hg:=(hI.vo 18)
   have hc0:W.cell? ⟨w.heap.size,4,none⟩=some (.slice an nn cn):=qk hg rfl
   exact opw_load1 40 15 rfl _ f _ (by simp [Instr.loadAt,go_sem,hc0]) (hKQ.out _ _ (hI.pu 13 16 hz hUN HBB stb (Below.refl _ _) rfl))
  ·have f0:aT b 16=.agg #[.slice an nn cn]:=hI.ge 13 hED
   refine opw_c1 102 16 Tryz.func102 f0 ?_
   refine (nameItem_R an nn cn y.parts L W (HLB W hI.bel) (h.kept (hbb.trans hI.bel)) ha hn).mono ?_
   rintro r W2 ⟨⟨a5,n5,c5,k5,m5,e5,rfl,hzI⟩,hb⟩
   exact ⟨_,rfl,hKQ.out _ _ (hI.pu 14 17 hz hUN HBB stb hb ⟨a5,n5,c5,k5,m5,e5,rfl,((hzI.mono hI.bel.size).le (by decide)),HGB⟩)⟩
  ·obtain ⟨a1,n1,c1,k1,m1,e1,f1,o1,_⟩:=hI.ge 2 hED
   replace f1:aT b 5=_:=f1
   obtain ⟨a2,n2,c2,k2,m2,e2,f2,o2,_⟩:=hI.ge 5 hED
   replace f2:aT b 8=_:=f2
   obtain ⟨a3,n3,c3,k3,m3,e3,f3,o3,_⟩:=hI.ge 8 hED
   replace f3:aT b 11=_:=f3
   obtain ⟨a4,n4,c4,k4,m4,e4,f4,o4,_⟩:=hI.ge 11 hED
   replace f4:aT b 14=_:=f4
   obtain ⟨a5,n5,c5,k5,m5,e5,f5,o5,_⟩:=hI.ge 14 hED
   replace f5:aT b 17=_:=f5
   refine opw_buildSliceT _ 5 _ rfl #[(0,.agg #[.int .i64 (numI y.g.kind).cls,.int .i64 (numI y.g.kind).tag,.bool (numI y.g.kind).cons,.slice a1 n1 c1,.slice k1 m1 e1]),(1,.agg #[.int .i64 (bytI (bytesOf y.g.text)).cls,.int .i64 (bytI (bytesOf y.g.text)).tag,.bool (bytI (bytesOf y.g.text)).cons,.slice a2 n2 c2,.slice k2 m2 e2]),(2,.agg #[.int .i64 (numI y.g.addr).cls,.int .i64 (numI y.g.addr).tag,.bool (numI y.g.addr).cons,.slice a3 n3 c3,.slice k3 m3 e3]),(3,.agg #[.int .i64 (numI y.g.bits).cls,.int .i64 (numI y.g.bits).tag,.bool (numI y.g.bits).cons,.slice a4 n4 c4,.slice k4 m4 e4]),(4,.agg #[.int .i64 (namI y.parts).cls,.int .i64 (namI y.parts).tag,.bool (namI y.parts).cons,.slice a5 n5 c5,.slice k5 m5 e5])] (by simp [ev,f1,f2,f3,f4,f5]) (.slice (some ⟨W.heap.size,0,none⟩) 5 5) (W.alloc (.cells #[.int .i64 (numI y.g.kind).cls,.int .i64 (numI y.g.kind).tag,.bool (numI y.g.kind).cons,.slice a1 n1 c1,.slice k1 m1 e1,.int .i64 (bytI (bytesOf y.g.text)).cls,.int .i64 (bytI (bytesOf y.g.text)).tag,.bool (bytI (bytesOf y.g.text)).cons,.slice a2 n2 c2,.slice k2 m2 e2,.int .i64 (numI y.g.addr).cls,.int .i64 (numI y.g.addr).tag,.bool (numI y.g.addr).cons,.slice a3 n3 c3,.slice k3 m3 e3,.int .i64 (numI y.g.bits).cls,.int .i64 (numI y.g.bits).tag,.bool (numI y.g.bits).cons,.slice a4 n4 c4,.slice k4 m4 e4,.int .i64 (namI y.parts).cls,.int .i64 (namI y.parts).tag,.bool (namI y.parts).cons,.slice a5 n5 c5,.slice k5 m5 e5] 75)) (by kernel_rfl) ?_
   exact hKQ.out _ _ (hI.pu 15 18 hz hUN HBB stb ((Below.refl _ _).alloc (Nat.le_refl _) _) ⟨W.heap.size,rfl,kidZ_n5 hI.bel.size o1 o2 o3 o4 o5,HGB⟩)
  ·obtain ⟨gr,f0,o0,_⟩:=hI.ge 15 hED
   replace f0:aT b 18=_:=f0
   refine opw_c1 152 18 Tryz.func152 f0 ?_
   refine (structItem_R o0 rfl).mono ?_
   rintro r W2 ⟨⟨a0,n0,c0,k0,m0,e0,rfl,hzI⟩,hb⟩
   exact ⟨_,rfl,hKQ.out _ _ (hI.pu 16 19 hz hUN HBB stb hb ⟨a0,n0,c0,k0,m0,e0,rfl,hzI,HGB⟩)⟩
  ·have hgb:=(hI.vot1 19 17 (od rfl) (od rfl) hUN rfl)
   have fb:=((hI.fr.same 2 (by decide)).trans g2)
   have f:=hI.ge 16 hED
   obtain ⟨a0,n0,c0,k0,m0,e0,f,o_0,o_1⟩:=f
   refine wp_store_row 75 _ _ rfl ((w.heap.size+1)) _ fb f 75 _ hgb (by kernel_rfl) rfl (by simp [Value.oneCell']) ?_
   have ht:=setRow_touch W ((w.heap.size+1)) #[.int .i64 (gneI y).cls,.int .i64 (gneI y).tag,.bool (gneI y).cons,.slice a0 n0 c0,.slice k0 m0 e0]
   exact hKQ.out _ _ (hI.store 17 (fun j hj=>by cases hj) (hI.bel.trans (ht.below (by first | exact HGE2 | omega) (Nat.le_trans HBB hI.bel.size))) (genitemr_st17 y an nn cn L w1.heap.size w.heap.size (w.heap.size) hgb ht) ⟨a0,n0,c0,k0,m0,e0,(setRow_heap W ((w.heap.size+1)) _ _ _ _ hgb),o_0.touched ht (by omega),o_1⟩)
 ·intro b W hf hb F
  clear stb
  obtain ⟨a0,n0,c0,k0,m0,e0,hbx,hz,_⟩:=F 17 (od rfl) rfl
  rw [hf.eq]
  simp only [puts,Act.put,List.setIfInBounds_toArray,List.set_cons_zero,List.set_cons_succ]
  clear hf F
  generalize aT b=AT
  clear b
  go_wp2
  try simp only [Exit.inBlock,Exit.then]
  exact bodyPost_ret (results_it rfl _ (w.heap.size+1) rfl _ _ _ _ _ _ hbx) rfl ⟨⟨a0,n0,c0,k0,m0,e0,rfl,hz.mono hbb.size⟩,hbb.trans hb⟩
theorem Gne_next (xs:List GE)(k:Nat)(h:k<xs.length):(xs.take (k+1)).map gneI=(xs.take k).map gneI++[gneI (xs.getD k default)]:=by
 rw [List.take_add_one,List.map_append]
 simp [h]
theorem eachGne_R (a:Option Addr)(n c:Nat)(xs:List GE)(L:Nat)(w:World)(hLw:L≤w.heap.size)(h:Ges w a n xs)(hw:∀ k,k<n→GeW (xs.getD k default))(hn:n≤1000) :
  Calls Tryz.prog 157 #[.slice a n c,.func (Fn.func 106) #[] #[]] w fun e w'=>∃ ao co,e=.returned (.slice ao n co)∧OwnItZ 5 L w.heap.size w' ao n co (xs.map gneI)∧Below w.heap.size w w':=by
 obtain ⟨i0,hi,hz0,hz1,hz2⟩:=info_parts Tryz.infoIt
 have H0:Hid (Ges w a n xs):=h
 have HPw:Hid (∀ k,k<n→GeW (xs.getD k default)):=hw
 have HLX:Hid (xs.length=n):=h.len
 clear h hw
 go_enter Tryz.func157,Tryz.ntmps157
 go_wp2
 go_loopw [5,10] (fun o i wr=>∃ (k:Nat) (ao:Option Addr) (cc:Nat),k≤n∧i=.int .i64 k∧o=.slice ao k cc∧Hid (OwnItZ 5 L w.heap.size wr ao k cc ((xs.take k).map gneI))∧Below w.heap.size w wr) (fun _ i _=>n - (intOf i).toNat)
 case atStart=>exact ⟨0,none,0,Nat.zero_le _,rfl,rfl,ownItZ_none _ _ _ _,Below.refl _ _⟩
 case round =>
  obtain ⟨k,ao,cc,hk,rfl,rfl,HO,hbr⟩:=hrel
  have hws:=hbr.size
  by_cases hlt:k<n
  ·obtain ⟨b,off,an,nn,cn,rfl,hlb,hc,hp,hsz⟩:=H0.out.get k hlt
   obtain ⟨y,hy⟩:∃ y,y=xs.getD k default:=⟨_,rfl⟩
   rw [← hy] at hc hp hsz
   have HYW:Hid (GeW y):=by show GeW _; rw [hy]; exact HPw.out k hlt
   have HYS:Hid (y.g.text.size≤9223372036854775807):=hsz
   have HPP:Hid (Pts w an nn y.parts):=hp
   have HNN:Hid (y.parts.length=nn):=hp.len
   obtain ⟨z,hz⟩:∃ z,z=gneI y:=⟨_,rfl⟩
   have HXK:Hid ((xs.take (k+1)).map gneI=(xs.take k).map gneI++[z]):=by show _=_; rw [hz,hy]; exact Gne_next xs k (by rw [HLX.out]; exact hlt)
   obtain ⟨c0,c1,c2,c3,c4⟩:=hc.of (w':=wr) (fun i=>hbr.cell (p:=⟨b,i,none⟩) hlb)
   clear hc hsz hp
   have hkni:(k:Int)<(n:Int):=by omega
   have hbw:b<wr.heap.size:=by omega
   have hbz:Below wr.heap.size wr (wr.alloc (.cells #[.int .i64 y.g.kind,.string y.g.text,.int .i64 y.g.addr,.int .i64 y.g.bits,.slice an nn cn] 127)):=(Below.refl _ _).alloc (Nat.le_refl _) _
   have hbz2:Below w.heap.size w (wr.alloc (.cells #[.int .i64 y.g.kind,.string y.g.text,.int .i64 y.g.addr,.int .i64 y.g.bits,.slice an nn cn] 127)):=hbr.trans (hbz.mono hws)
   have HCON:Hid (Calls Tryz.prog 106 #[.agg #[.int .i64 y.g.kind,.string y.g.text,.int .i64 y.g.addr,.int .i64 y.g.bits,.slice an nn cn]] (wr.alloc (.cells #[.int .i64 y.g.kind,.string y.g.text,.int .i64 y.g.addr,.int .i64 y.g.bits,.slice an nn cn] 127)) fun e w'=>ItR L (wr.alloc (.cells #[.int .i64 y.g.kind,.string y.g.text,.int .i64 y.g.addr,.int .i64 y.g.bits,.slice an nn cn] 127)).heap.size 5 z e w'∧Below (wr.alloc (.cells #[.int .i64 y.g.kind,.string y.g.text,.int .i64 y.g.addr,.int .i64 y.g.bits,.slice an nn cn] 127)).heap.size (wr.alloc (.cells #[.int .i64 y.g.kind,.string y.g.text,.int .i64 y.g.addr,.int .i64 y.g.bits,.slice an nn cn] 127)) w'):=by rw [hz]; exact genItem_R y an nn cn L _ (by have:=hbz.size; omega) (HPP.out.kept hbz2) HYW.out.1 HYS.out (fun j hj=>HYW.out.2.1 j (by rw [HNN.out]; exact hj)) (by rw [← HNN.out]; exact HYW.out.2.2)
   clear hy hz
   go_wp2_with fail
   refine HCON.out.mono ?_
   rintro e w2 ⟨⟨ab,nb,cb,ak,nk,ck,rfl,hit⟩,hb2⟩
   have hb2r:Below wr.heap.size wr w2:=keepT hbz hb2
   have B2:Below w.heap.size w w2:=hbr.trans (hb2r.mono hws)
   have hal:Below w2.heap.size w2 (w2.alloc (.cells #[.int .i64 z.cls,.int .i64 z.tag,.bool z.cons,.slice ab nb cb,.slice ak nk ck] 75)):=(Below.refl _ _).alloc (Nat.le_refl _) _
   have B6:Below w.heap.size w (w2.alloc (.cells #[.int .i64 z.cls,.int .i64 z.tag,.bool z.cons,.slice ab nb cb,.slice ak nk ck] 75)):=B2.trans (hal.mono B2.size)
   have hs6:(w2.alloc (.cells #[.int .i64 z.cls,.int .i64 z.tag,.bool z.cons,.slice ab nb cb,.slice ak nk ck] 75)).heap.size=w2.heap.size+1:=by simp
   have hs2:=hb2r.size
   have hsz1:=hbz.size
   have HQ3:Hid (OwnItZ 5 L w.heap.size (w2.alloc (.cells #[.int .i64 z.cls,.int .i64 z.tag,.bool z.cons,.slice ab nb cb,.slice ak nk ck] 75)) ao k cc ((xs.take k).map gneI)):=(HO.out.kept hb2r).kept hal
   obtain ⟨vs,hrow⟩:=HQ3.out.row
   have HROW:Hid (_):=hrow
   have hown:∀ b,(Value.slice ao k cc).ownBlock=some b→w.heap.size≤b∧b<wr.heap.size:=fun b hb=>by obtain ⟨vs0,hv0⟩:=HO.out.row; exact ⟨HO.out.2 b hb,(hv0.lt b hb).2⟩
   have HAPP:Hid (∀ g7 c7 w7,w7.ownsRow 0 75 5 (.slice (some ⟨g7,0,none⟩) (k+1) c7) (k+1) (vs++itc z ab nb cb ak nk ck)→(w2.alloc (.cells #[.int .i64 z.cls,.int .i64 z.tag,.bool z.cons,.slice ab nb cb,.slice ak nk ck] 75)).grownBy w7 (Value.slice ao k cc).ownBlock→((Value.slice ao k cc).ownBlock=some g7∨g7=w2.heap.size+1)→OwnItZ 5 L w.heap.size w7 (some ⟨g7,0,none⟩) (k+1) c7 ((xs.take (k+1)).map gneI)∧Below w.heap.size w w7):=by
    intro g7 c7 w7 hv7 hg7 hl7
    have hit2:=hit.kept hal
    rw [HXK.out]
    refine ⟨HQ3.out.appended hit2.it (fun b hb=>⟨by have:=hb.1; omega,hb.2,fun e=>by have:=hown b e; have:=hb.1; omega⟩) (by omega) HROW.out hv7 hg7 (by rw [hs6]; exact hl7) B6.size,B6.grown hg7 (by have:=B6.size; omega) (fun kx hx=>HQ3.out.2 kx hx)⟩
   clear c0 c1 c2 c3 c4 hrow HO hb2 hb2r B2 hal hbz hbz2 hit HCON
   go_wp2_with (at_builtin; refine wpList_append_lies _ rfl (.tmp 14) (.tmp 18) 73 rfl 0 75 i0 _ 5 72 Tryz.underlying73 hi hz0 hz1 hz2 rfl (by decide) _ k vs rfl HROW.out ⟨w2.heap.size,0,none⟩ 1 1 [.int .i64 z.cls,.int .i64 z.tag,.bool z.cons,.slice ab nb cb,.slice ak nk ck] rfl rfl (World.news_of_block (heap_alloc_new w2 (.cells #[.int .i64 z.cls,.int .i64 z.tag,.bool z.cons,.slice ab nb cb,.slice ak nk ck] 75))) (by intro u hu; simp only [List.mem_cons,List.not_mem_nil,or_false] at hu; rcases hu with rfl | rfl | rfl | rfl | rfl <;> rfl) (by decide) (by unfold maxLen; omega) (by omega) (Nat.zero_le _) (w2.heap.size+1) (by simp) ?_; intro g7 c7 w7 hv7 hg7 hl7 hlt7; have HN7:=HAPP.out g7 c7 w7 hv7 hg7 hl7; have HO7:Hid (_):=HN7.1; have B7:=HN7.2; clear hv7 hg7 hl7 hlt7 HN7 HAPP HQ3 HROW)
   go_roundw
   case rel=>exact ⟨k+1,_,c7,by omega,by go_num,rfl,HO7,B7⟩
   case measure=>simp [intOf]; omega
  ·obtain rfl:k=n:=by omega
   have HX:Hid (xs.take k=xs):=by show _=_; rw [List.take_of_length_le (by rw [HLX.out]; exact Nat.le_refl _)]
   go_wp2
   go_ret
   refine ⟨ao,cc,rfl,?_,hbr⟩
   have:=HO.out
   rw [HX.out] at this
   exact this
theorem listItemGne_R (a:Option Addr)(n c:Nat)(xs:List GE)(L:Nat)(w:World)(hLw:L≤w.heap.size)(h:Ges w a n xs)(hw:∀ k,k<n→GeW (xs.getD k default))(hn:n≤1000) :
  Calls Tryz.prog 105 #[.slice a n c,.func (Fn.func 106) #[] #[]] w fun e w'=>ItR L w.heap.size 6 (lstI (xs.map gneI)) e w'∧Below w.heap.size w w':=by
 have hbx:=box5_below w
 have hsz:=box5_size w
 have HB5:Hid (_=_):=box5_new w
 have HE:Hid (_):=eachGne_R a n c xs L (box5 w) (by omega) (h.kept hbx) hw hn
 clear h hw
 go_enter Tryz.func105,Tryz.ntmps105
 go_wp2_with fail
 refine Calls.mono HE.out ?_
 rintro e w2 ⟨ao,co,rfl,ho,hb2⟩
 have HK:Hid (KidsI 6 (fun b=>(b<L∨(box5 w).heap.size≤b)∧b<w2.heap.size) w2 ao n (xs.map gneI)):=ho.kids
 have h5:=below_kept HB5.out hb2
 obtain ⟨_,q0,q1,q2,q3,q4,q5,q6,q7,q8,q9⟩:=Box5.of h5
 have H5:Hid (_=_):=h5
 have B2:Below w.heap.size w w2:=keepT hbx hb2
 have hs2:=hb2.size
 clear ho h5 hb2 HE
 go_wp2_with fail
 try simp only [Exit.inBlock,Exit.then]
 have T:=put5_touch w2 w.heap.size (.int .i64 0) (.int .i64 17) (.bool true) (.slice none 0 0) (.slice ao n co)
 have hZ:ListZ L (w.heap.size+1) 6 w2 ao n (xs.map gneI):=⟨HK.out.mono (fun b hb=>⟨by have:=hb.1; omega,hb.2⟩)⟩
 exact bodyPost_ret (results_it rfl _ w.heap.size rfl _ _ _ _ _ _ (put5_heap H5.out _ _ _ _ _)) rfl ⟨⟨_,_,_,_,_,_,rfl,(hZ.itz (co:=co)).put hLw (by omega) _ _ _ _ _⟩,B2.trans (T.below (Nat.le_refl _) B2.size)⟩
open Go.RowKit Go.Sort
structure ExL (a:Option Addr)(n L:Nat)(w:World)(xs:List XP):Prop where
 lt:∀ k b off s y,k<n→a=some ⟨b,off,none⟩→XPC w b (off+k * 3) s y→∀ x,s.a1=some x→0<s.n1→x.block<L
theorem XPs.exL {a:Option Addr}{n:Nat}{w:World}{xs:List XP}(h:XPs w a n xs):ExL a n w.heap.size w xs:=by
 refine ⟨fun k b off s y hk ha hc x hx h0=>?_⟩
 obtain ⟨b',off',s',ha',_,hc',hp'⟩:=h.get k hk
 rw [ha] at ha'
 simp only [Option.some.injEq,Addr.mk.injEq,and_true] at ha'
 obtain ⟨rfl,rfl⟩:=ha'
 have e:=hc.c2.symm.trans hc'.c2
 simp only [Option.some.injEq,Value.slice.injEq] at e
 obtain ⟨b2,off2,ha2,hlt2,_⟩:=hp'.r1.get 0 (by omega)
 rw [e.1,ha2] at hx
 injection hx with hx
 rw [← hx]
 exact hlt2
theorem ExL.kept {a:Option Addr}{n L:Nat}{w w':World}{xs:List XP}(h:ExL a n L w xs)(hs:XPs w a n xs)(hb:Below w.heap.size w w'):ExL a n L w' xs:=by
 refine ⟨fun k b off s y hk ha hc x hx h0=>?_⟩
 obtain ⟨b',off',s',ha',hlt,hc',hp'⟩:=hs.get k hk
 rw [ha] at ha'
 simp only [Option.some.injEq,Addr.mk.injEq,and_true] at ha'
 obtain ⟨rfl,rfl⟩:=ha'
 have hcb:=hb.cell (p:=⟨b,off+k * 3+2,none⟩) hlt
 have e:=(hc.c2.symm.trans hcb).trans hc'.c2
 simp only [Option.some.injEq,Value.slice.injEq] at e
 exact h.lt k b off s' _ hk ha hc' x (by rw [← e.1]; exact hx) (by omega)
def extitemr (y:XP)(a:Option Addr)(n c:Nat)(L R G B:Nat):RSpec where
 m:=12
 n:=14
 slots:=[3,4,5,6,7,8,9,10,11,12,13,100011,100012,100013]
 kills:=[[],[],[],[],[],[],[],[],[],[],[],[],[],[11]]
 pres:=[[],[],[],[],[],[],[],[],[],[],[],[],[],[]]
 fact:=fun k v w=>match k with
  | 0=>v=.pointer (some ⟨G,0,none⟩)
  | 1=>v=.int .i64 y.id
  | 2=>∃ a1 n1 c1 k1 m1 e1,v=.agg #[.int .i64 (numI y.id).cls,.int .i64 (numI y.id).tag,.bool (numI y.id).cons,.slice a1 n1 c1,.slice k1 m1 e1]∧ItZ L R 1 w (numI y.id) a1 n1 c1 k1 m1 e1∧L≤G∧G+1<R
  | 3=>v=.pointer (some ⟨G,1,none⟩)
  | 4=>v=.bool y.crit
  | 5=>∃ a2 n2 c2 k2 m2 e2,v=.agg #[.int .i64 (flgI y.crit).cls,.int .i64 (flgI y.crit).tag,.bool (flgI y.crit).cons,.slice a2 n2 c2,.slice k2 m2 e2]∧ItZ L R 1 w (flgI y.crit) a2 n2 c2 k2 m2 e2∧L≤G∧G+1<R
  | 6=>v=.pointer (some ⟨G,2,none⟩)
  | 7=>v=.slice a n c
  | 8=>∃ a3 n3 c3 k3 m3 e3,v=.agg #[.int .i64 (bytI y.val).cls,.int .i64 (bytI y.val).tag,.bool (bytI y.val).cons,.slice a3 n3 c3,.slice k3 m3 e3]∧ItZ L R 1 w (bytI y.val) a3 n3 c3 k3 m3 e3∧L≤G∧G+1<R
  | 9=>∃ gr,v=.slice (some ⟨gr,0,none⟩) 3 3∧KidZ L R w gr 2 [numI y.id,flgI y.crit,bytI y.val]∧L≤G∧G+1<R
  | 10=>∃ a0 n0 c0 k0 m0 e0,v=.agg #[.int .i64 (exI y).cls,.int .i64 (exI y).tag,.bool (exI y).cons,.slice a0 n0 c0,.slice k0 m0 e0]∧ItZ L R 2 w (exI y) a0 n0 c0 k0 m0 e0∧L≤G∧G+1<R
  | 11=>∃ a0 n0 c0 k0 m0 e0,w.heap[(G+1)]? = some (.cells #[.int .i64 (exI y).cls,.int .i64 (exI y).tag,.bool (exI y).cons,.slice a0 n0 c0,.slice k0 m0 e0] 75 (0,0))∧ItZ L R 2 w (exI y) a0 n0 c0 k0 m0 e0∧L≤G∧G+1<R
  | 12=>w.heap[G]? = some (.cells #[.int .i64 y.id,.bool y.crit,.slice a n c] 113 (0,0))
  | _=>w.heap[(G+1)]? = some (.cells #[.int .i64 0,.int .i64 0,.bool false,.slice none 0 0,.slice none 0 0] 75 (0,0))
theorem extitemr_stb (y:XP)(a:Option Addr)(n c:Nat)(L R G B:Nat)(k:Nat)(hk:k<14):StB ((extitemr y a n c L R G (B)).fact k):=by
 match k,hk with
 | 0,_=>exact fun _ _ _ h _=>h
 | 1,_=>exact fun _ _ _ h _=>h
 | 2,_=>exact fun _ _ _ ⟨a1,n1,c1,k1,m1,e1,hv,q_0,q_1⟩ hb=>⟨a1,n1,c1,k1,m1,e1,hv,q_0.kept hb,q_1⟩
 | 3,_=>exact fun _ _ _ h _=>h
 | 4,_=>exact fun _ _ _ h _=>h
 | 5,_=>exact fun _ _ _ ⟨a2,n2,c2,k2,m2,e2,hv,q_0,q_1⟩ hb=>⟨a2,n2,c2,k2,m2,e2,hv,q_0.kept hb,q_1⟩
 | 6,_=>exact fun _ _ _ h _=>h
 | 7,_=>exact fun _ _ _ h _=>h
 | 8,_=>exact fun _ _ _ ⟨a3,n3,c3,k3,m3,e3,hv,q_0,q_1⟩ hb=>⟨a3,n3,c3,k3,m3,e3,hv,q_0.kept hb,q_1⟩
 | 9,_=>exact fun _ _ _ ⟨gr,hv,q_0,q_1⟩ hb=>⟨gr,hv,q_0.kept hb,q_1⟩
 | 10,_=>exact fun _ _ _ ⟨a0,n0,c0,k0,m0,e0,hv,q_0,q_1⟩ hb=>⟨a0,n0,c0,k0,m0,e0,hv,q_0.kept hb,q_1⟩
 | 11,_=>exact fun _ _ _ ⟨a0,n0,c0,k0,m0,e0,q_0,q_1,q_2⟩ hb=>⟨a0,n0,c0,k0,m0,e0,below_kept q_0 hb,q_1.kept hb,q_2⟩
 | 12,_=>exact fun _ _ _ q_0 hb=>below_kept q_0 hb
 | 13,_=>exact fun _ _ _ q_0 hb=>below_kept q_0 hb
 | k+14,hk=>omega
theorem extitemr_st11 (y:XP)(a:Option Addr)(n c:Nat)(L R G B:Nat){W W2:World}{cs:Array Value}{fr:Nat × Nat}(hg:W.heap[(G+1)]? = some (.cells cs 75 fr))(ht:Touch ((G+1)) ((G+1)+1) W W2)(k:Nat)(hk:k<14)(hne:k≠11)(hkill:11∉(extitemr y a n c L R G (B)).kill k)(v:Value)(hfact:(extitemr y a n c L R G (B)).fact k v W):(extitemr y a n c L R G (B)).fact k v W2:=by
 match k,hk,hne,hkill,hfact with
 | 0,_,_,_,hq=>exact hq
 | 1,_,_,_,hq=>exact hq
 | 2,_,_,_,⟨a1,n1,c1,k1,m1,e1,hv,q_0,q_1⟩=>exact ⟨a1,n1,c1,k1,m1,e1,hv,q_0.touched ht (by omega),q_1⟩
 | 3,_,_,_,hq=>exact hq
 | 4,_,_,_,hq=>exact hq
 | 5,_,_,_,⟨a2,n2,c2,k2,m2,e2,hv,q_0,q_1⟩=>exact ⟨a2,n2,c2,k2,m2,e2,hv,q_0.touched ht (by omega),q_1⟩
 | 6,_,_,_,hq=>exact hq
 | 7,_,_,_,hq=>exact hq
 | 8,_,_,_,⟨a3,n3,c3,k3,m3,e3,hv,q_0,q_1⟩=>exact ⟨a3,n3,c3,k3,m3,e3,hv,q_0.touched ht (by omega),q_1⟩
 | 9,_,_,_,⟨gr,hv,q_0,q_1⟩=>exact ⟨gr,hv,q_0.touched ht (by omega),q_1⟩
 | 10,_,_,_,⟨a0,n0,c0,k0,m0,e0,hv,q_0,q_1⟩=>exact ⟨a0,n0,c0,k0,m0,e0,hv,q_0.touched ht (by omega),q_1⟩
 | 11,_,hne,_,_=>exact absurd rfl hne
 | 12,_,_,_,q_0=>exact box_box q_0 hg (by decide) ht
 | 13,_,_,hkill,_=>exact absurd (List.Mem.head _) hkill
 | k+14,hk,_,_,_=>omega
theorem extItem_R (y:XP)(a:Option Addr)(n c:Nat)(L:Nat)(w:World)(hLw:L≤w.heap.size)(h:Row w a n y.val)(hl:∀ x,a=some x→0<n→x.block<L)(hnl:a=none→c=0)(hm:n≤9223372036854775807)(hw:W64 y.id) :
  Calls Tryz.prog 111 #[.agg #[.int .i64 y.id,.bool y.crit,.slice a n c]] w fun e w'=>ItR L w.heap.size 2 (exI y) e w'∧Below w.heap.size w w':=by
 obtain ⟨w1,hw1⟩:∃ w1,w1=(w.alloc (.cells #[.int .i64 y.id,.bool y.crit,.slice a n c] 113)).alloc (.cells #[.int .i64 0,.int .i64 0,.bool false,.slice none 0 0,.slice none 0 0] 75):=⟨_,rfl⟩
 have hbb:Below w.heap.size w w1:=by rw [hw1]; exact ((Below.refl _ _).alloc (Nat.le_refl _) _).alloc (by simp) _
 have HB1:Hid (_∧_):=two_blocks w (.cells #[.int .i64 y.id,.bool y.crit,.slice a n c] 113) (.cells #[.int .i64 0,.int .i64 0,.bool false,.slice none 0 0,.slice none 0 0] 75)
 rw [← hw1] at HB1
 have hsz:w1.heap.size=w.heap.size+2:=by rw [hw1]; simp
 have HGB:L≤w.heap.size∧w.heap.size+1<w1.heap.size:=⟨hLw,by omega⟩
 have HLB:∀ W,Below w.heap.size w1 W→L≤W.heap.size:=fun W hW=>by have:=hW.size; omega
 have HBB:w.heap.size≤w1.heap.size:=hbb.size
 have HW:Hid (_=_):=hw1
 clear hw1
 go_enter Tryz.func111,Tryz.ntmps111
 go_upto_region 1 with fail
 rw [← HW.out]
 clear HW
 have stb:=extitemr_stb y a n c L w1.heap.size w.heap.size (w.heap.size)
 refine wp_region_ri (extitemr y a n c L w1.heap.size w.heap.size (w.heap.size)) [3,4,5,6,7,8,9,10,11,12,13] (w.heap.size) (fun a0=>a0.tmps.size=14∧aT a0 1=.pointer (some ⟨w.heap.size,0,none⟩)∧aT a0 2=.pointer (some ⟨(w.heap.size+1),0,none⟩)) (by kernel_rfl) rfl (by kernel_rfl) rfl ⟨rfl,rfl,rfl⟩ stb ?_ ?_ ?_
 ·exact vt2 (m:=12) (HB1.out.1) (HB1.out.2)
 ·rintro a0 ⟨hz,g1,g2⟩
  refine StepsRI.cons ?_ (StepsRI.cons ?_ (StepsRI.cons ?_ (StepsRI.cons ?_ (StepsRI.cons ?_ (StepsRI.cons ?_ (StepsRI.cons ?_ (StepsRI.cons ?_ (StepsRI.cons ?_ (StepsRI.cons ?_ (StepsRI.cons ?_ (StepsRI.cons ?_ (StepsRI.nil))))))))))))
  all_goals intro lQ b W hI hUN hED KQ hKQ
  ·exact opw_field 113 1 0 rfl _ ((hI.fr.same 1 (by decide)).trans g1) _ (by kernel_rfl) (hKQ.out _ _ (hI.pu 0 3 hz hUN HBB stb (Below.refl _ _) rfl))
  ·have f:=hI.ge 0 hED
   have hg:=(hI.vo 12)
   have hc:W.cell? ⟨w.heap.size,0,none⟩=some (.int .i64 y.id):=qk hg rfl
   exact opw_load1 2 3 rfl _ f _ (by simp [Instr.loadAt,go_sem,hc]) (hKQ.out _ _ (hI.pu 1 4 hz hUN HBB stb (Below.refl _ _) rfl))
  ·have f0:aT b 4=.int .i64 y.id:=hI.ge 1 hED
   refine opw_c1 101 4 Tryz.func101 f0 ?_
   refine (numberItem_R y.id L W hw).mono ?_
   rintro r W2 ⟨⟨a1,n1,c1,k1,m1,e1,rfl,hzI⟩,hb⟩
   exact ⟨_,rfl,hKQ.out _ _ (hI.pu 2 5 hz hUN HBB stb hb ⟨a1,n1,c1,k1,m1,e1,rfl,((hzI.mono hI.bel.size).le (by decide)),HGB⟩)⟩
  ·exact opw_field 113 1 1 rfl _ ((hI.fr.same 1 (by decide)).trans g1) _ (by kernel_rfl) (hKQ.out _ _ (hI.pu 3 6 hz hUN HBB stb (Below.refl _ _) rfl))
  ·have f:=hI.ge 3 hED
   have hg:=(hI.vo 12)
   have hc:W.cell? ⟨w.heap.size,1,none⟩=some (.bool y.crit):=qk hg rfl
   exact opw_load1 4 6 rfl _ f _ (by simp [Instr.loadAt,go_sem,hc]) (hKQ.out _ _ (hI.pu 4 7 hz hUN HBB stb (Below.refl _ _) rfl))
  ·have f0:aT b 7=.bool y.crit:=hI.ge 4 hED
   refine opw_c1 104 7 Tryz.func104 f0 ?_
   refine (flagItem_R y.crit W L (HLB W hI.bel)).mono ?_
   rintro r W2 ⟨⟨a2,n2,c2,k2,m2,e2,rfl,hzI⟩,hb⟩
   exact ⟨_,rfl,hKQ.out _ _ (hI.pu 5 8 hz hUN HBB stb hb ⟨a2,n2,c2,k2,m2,e2,rfl,((hzI.mono hI.bel.size).le (by decide)),HGB⟩)⟩
  ·exact opw_field 113 1 2 rfl _ ((hI.fr.same 1 (by decide)).trans g1) _ (by kernel_rfl) (hKQ.out _ _ (hI.pu 6 9 hz hUN HBB stb (Below.refl _ _) rfl))
  ·have f:=hI.ge 6 hED
   have hg:=(hI.vo 12)
   have hc:W.cell? ⟨w.heap.size,2,none⟩=some (.slice a n c):=qk hg rfl
   exact opw_load1 32 9 rfl _ f _ (by simp [Instr.loadAt,go_sem,hc]) (hKQ.out _ _ (hI.pu 7 10 hz hUN HBB stb (Below.refl _ _) rfl))
  ·have f0:aT b 10=.slice a n c:=hI.ge 7 hED
   refine opw_c1 60 10 Tryz.func60 f0 ?_
   refine (bytesItem_R a n c y.val L W (h.kept (hbb.trans hI.bel)) hl hnl hm).mono ?_
   rintro r W2 ⟨⟨a3,n3,c3,k3,m3,e3,rfl,hzI⟩,hb⟩
   exact ⟨_,rfl,hKQ.out _ _ (hI.pu 8 11 hz hUN HBB stb hb ⟨a3,n3,c3,k3,m3,e3,rfl,((hzI.mono hI.bel.size).le (by decide)),HGB⟩)⟩
  ·obtain ⟨a1,n1,c1,k1,m1,e1,f1,o1,_⟩:=hI.ge 2 hED
   replace f1:aT b 5=_:=f1
   obtain ⟨a2,n2,c2,k2,m2,e2,f2,o2,_⟩:=hI.ge 5 hED
   replace f2:aT b 8=_:=f2
   obtain ⟨a3,n3,c3,k3,m3,e3,f3,o3,_⟩:=hI.ge 8 hED
   replace f3:aT b 11=_:=f3
   refine opw_buildSliceT _ 3 _ rfl #[(0,.agg #[.int .i64 (numI y.id).cls,.int .i64 (numI y.id).tag,.bool (numI y.id).cons,.slice a1 n1 c1,.slice k1 m1 e1]),(1,.agg #[.int .i64 (flgI y.crit).cls,.int .i64 (flgI y.crit).tag,.bool (flgI y.crit).cons,.slice a2 n2 c2,.slice k2 m2 e2]),(2,.agg #[.int .i64 (bytI y.val).cls,.int .i64 (bytI y.val).tag,.bool (bytI y.val).cons,.slice a3 n3 c3,.slice k3 m3 e3])] (by simp [ev,f1,f2,f3]) (.slice (some ⟨W.heap.size,0,none⟩) 3 3) (W.alloc (.cells #[.int .i64 (numI y.id).cls,.int .i64 (numI y.id).tag,.bool (numI y.id).cons,.slice a1 n1 c1,.slice k1 m1 e1,.int .i64 (flgI y.crit).cls,.int .i64 (flgI y.crit).tag,.bool (flgI y.crit).cons,.slice a2 n2 c2,.slice k2 m2 e2,.int .i64 (bytI y.val).cls,.int .i64 (bytI y.val).tag,.bool (bytI y.val).cons,.slice a3 n3 c3,.slice k3 m3 e3] 75)) (by kernel_rfl) ?_
   exact hKQ.out _ _ (hI.pu 9 12 hz hUN HBB stb ((Below.refl _ _).alloc (Nat.le_refl _) _) ⟨W.heap.size,rfl,kidZ_n3 hI.bel.size o1 o2 o3,HGB⟩)
  ·obtain ⟨gr,f0,o0,_⟩:=hI.ge 9 hED
   replace f0:aT b 12=_:=f0
   refine opw_c1 152 12 Tryz.func152 f0 ?_
   refine (structItem_R o0 rfl).mono ?_
   rintro r W2 ⟨⟨a0,n0,c0,k0,m0,e0,rfl,hzI⟩,hb⟩
   exact ⟨_,rfl,hKQ.out _ _ (hI.pu 10 13 hz hUN HBB stb hb ⟨a0,n0,c0,k0,m0,e0,rfl,hzI,HGB⟩)⟩
  ·have hgb:=(hI.vot1 13 11 (od rfl) (od rfl) hUN rfl)
   have fb:=((hI.fr.same 2 (by decide)).trans g2)
   have f:=hI.ge 10 hED
   obtain ⟨a0,n0,c0,k0,m0,e0,f,o_0,o_1⟩:=f
   refine wp_store_row 75 _ _ rfl ((w.heap.size+1)) _ fb f 75 _ hgb (by kernel_rfl) rfl (by simp [Value.oneCell']) ?_
   have ht:=setRow_touch W ((w.heap.size+1)) #[.int .i64 (exI y).cls,.int .i64 (exI y).tag,.bool (exI y).cons,.slice a0 n0 c0,.slice k0 m0 e0]
   exact hKQ.out _ _ (hI.store 11 (fun j hj=>by cases hj) (hI.bel.trans (ht.below (by first | exact HGE2 | omega) (Nat.le_trans HBB hI.bel.size))) (extitemr_st11 y a n c L w1.heap.size w.heap.size (w.heap.size) hgb ht) ⟨a0,n0,c0,k0,m0,e0,(setRow_heap W ((w.heap.size+1)) _ _ _ _ hgb),o_0.touched ht (by omega),o_1⟩)
 ·intro b W hf hb F
  clear stb
  obtain ⟨a0,n0,c0,k0,m0,e0,hbx,hz,_⟩:=F 11 (od rfl) rfl
  rw [hf.eq]
  simp only [puts,Act.put,List.setIfInBounds_toArray,List.set_cons_zero,List.set_cons_succ]
  clear hf F
  generalize aT b=AT
  clear b
  go_wp2
  try simp only [Exit.inBlock,Exit.then]
  exact bodyPost_ret (results_it rfl _ (w.heap.size+1) rfl _ _ _ _ _ _ hbx) rfl ⟨⟨a0,n0,c0,k0,m0,e0,rfl,hz.mono hbb.size⟩,hbb.trans hb⟩
theorem Exi_next (xs:List XP)(k:Nat)(h:k<xs.length):(xs.take (k+1)).map exI=(xs.take k).map exI++[exI (xs.getD k default)]:=by
 rw [List.take_add_one,List.map_append]
 simp [h]
theorem eachExi_R (a:Option Addr)(n c:Nat)(xs:List XP)(L:Nat)(w:World)(hLw:L≤w.heap.size)(h:XPs w a n xs)(hw:∀ k,k<n→W64 (xs.getD k default).id)(hl:ExL a n L w xs)(hn:n≤1000) :
  Calls Tryz.prog 161 #[.slice a n c,.func (Fn.func 111) #[] #[]] w fun e w'=>∃ ao co,e=.returned (.slice ao n co)∧OwnItZ 2 L w.heap.size w' ao n co (xs.map exI)∧Below w.heap.size w w':=by
 obtain ⟨i0,hi,hz0,hz1,hz2⟩:=info_parts Tryz.infoIt
 have H0:Hid (XPs w a n xs):=h
 have HPw:Hid (∀ k,k<n→W64 (xs.getD k default).id):=hw
 have HPl:Hid (ExL a n L w xs):=hl
 have HLX:Hid (xs.length=n):=h.len
 clear h hw hl
 go_enter Tryz.func161,Tryz.ntmps161
 go_wp2
 go_loopw [5,10] (fun o i wr=>∃ (k:Nat) (ao:Option Addr) (cc:Nat),k≤n∧i=.int .i64 k∧o=.slice ao k cc∧Hid (OwnItZ 2 L w.heap.size wr ao k cc ((xs.take k).map exI))∧Below w.heap.size w wr) (fun _ i _=>n - (intOf i).toNat)
 case atStart=>exact ⟨0,none,0,Nat.zero_le _,rfl,rfl,ownItZ_none _ _ _ _,Below.refl _ _⟩
 case round =>
  obtain ⟨k,ao,cc,hk,rfl,rfl,HO,hbr⟩:=hrel
  have hws:=hbr.size
  by_cases hlt:k<n
  ·obtain ⟨b,off,s,rfl,hlb,hc,hp⟩:=H0.out.get k hlt
   obtain ⟨y,hy⟩:∃ y,y=xs.getD k default:=⟨_,rfl⟩
   have HYL:Hid (∀ x,s.a1=some x→0<s.n1→x.block<L):=HPl.out.lt k b off s _ hlt rfl hc
   rw [← hy] at hc hp
   have HYW:Hid (W64 y.id):=by show W64 _; rw [hy]; exact HPw.out k hlt
   obtain ⟨sa,sn,sc⟩:=s
   have HPP:Hid (XPR w ⟨sa,sn,sc⟩ y):=hp
   obtain ⟨z,hz⟩:∃ z,z=exI y:=⟨_,rfl⟩
   have HXK:Hid ((xs.take (k+1)).map exI=(xs.take k).map exI++[z]):=by show _=_; rw [hz,hy]; exact Exi_next xs k (by rw [HLX.out]; exact hlt)
   obtain ⟨c0,c1,c2⟩:=hc.of (w':=wr) (fun i=>hbr.cell (p:=⟨b,i,none⟩) hlb)
   clear hc hp
   have hkni:(k:Int)<(n:Int):=by omega
   have hbw:b<wr.heap.size:=by omega
   have hbz:Below wr.heap.size wr (wr.alloc (.cells #[.int .i64 y.id,.bool y.crit,.slice sa sn sc] 113)):=(Below.refl _ _).alloc (Nat.le_refl _) _
   have hbz2:Below w.heap.size w (wr.alloc (.cells #[.int .i64 y.id,.bool y.crit,.slice sa sn sc] 113)):=hbr.trans (hbz.mono hws)
   have HCON:Hid (Calls Tryz.prog 111 #[.agg #[.int .i64 y.id,.bool y.crit,.slice sa sn sc]] (wr.alloc (.cells #[.int .i64 y.id,.bool y.crit,.slice sa sn sc] 113)) fun e w'=>ItR L (wr.alloc (.cells #[.int .i64 y.id,.bool y.crit,.slice sa sn sc] 113)).heap.size 2 z e w'∧Below (wr.alloc (.cells #[.int .i64 y.id,.bool y.crit,.slice sa sn sc] 113)).heap.size (wr.alloc (.cells #[.int .i64 y.id,.bool y.crit,.slice sa sn sc] 113)) w'):=by rw [hz]; exact extItem_R y sa sn sc L _ (by have:=hbz.size; omega) (HPP.out.r1.kept hbz2) HYL.out HPP.out.nl1 HPP.out.m1 HYW.out
   clear hy hz
   go_wp2_with fail
   refine HCON.out.mono ?_
   rintro e w2 ⟨⟨ab,nb,cb,ak,nk,ck,rfl,hit⟩,hb2⟩
   have hb2r:Below wr.heap.size wr w2:=keepT hbz hb2
   have B2:Below w.heap.size w w2:=hbr.trans (hb2r.mono hws)
   have hal:Below w2.heap.size w2 (w2.alloc (.cells #[.int .i64 z.cls,.int .i64 z.tag,.bool z.cons,.slice ab nb cb,.slice ak nk ck] 75)):=(Below.refl _ _).alloc (Nat.le_refl _) _
   have B6:Below w.heap.size w (w2.alloc (.cells #[.int .i64 z.cls,.int .i64 z.tag,.bool z.cons,.slice ab nb cb,.slice ak nk ck] 75)):=B2.trans (hal.mono B2.size)
   have hs6:(w2.alloc (.cells #[.int .i64 z.cls,.int .i64 z.tag,.bool z.cons,.slice ab nb cb,.slice ak nk ck] 75)).heap.size=w2.heap.size+1:=by simp
   have hs2:=hb2r.size
   have hsz1:=hbz.size
   have HQ3:Hid (OwnItZ 2 L w.heap.size (w2.alloc (.cells #[.int .i64 z.cls,.int .i64 z.tag,.bool z.cons,.slice ab nb cb,.slice ak nk ck] 75)) ao k cc ((xs.take k).map exI)):=(HO.out.kept hb2r).kept hal
   obtain ⟨vs,hrow⟩:=HQ3.out.row
   have HROW:Hid (_):=hrow
   have hown:∀ b,(Value.slice ao k cc).ownBlock=some b→w.heap.size≤b∧b<wr.heap.size:=fun b hb=>by obtain ⟨vs0,hv0⟩:=HO.out.row; exact ⟨HO.out.2 b hb,(hv0.lt b hb).2⟩
   have HAPP:Hid (∀ g7 c7 w7,w7.ownsRow 0 75 5 (.slice (some ⟨g7,0,none⟩) (k+1) c7) (k+1) (vs++itc z ab nb cb ak nk ck)→(w2.alloc (.cells #[.int .i64 z.cls,.int .i64 z.tag,.bool z.cons,.slice ab nb cb,.slice ak nk ck] 75)).grownBy w7 (Value.slice ao k cc).ownBlock→((Value.slice ao k cc).ownBlock=some g7∨g7=w2.heap.size+1)→OwnItZ 2 L w.heap.size w7 (some ⟨g7,0,none⟩) (k+1) c7 ((xs.take (k+1)).map exI)∧Below w.heap.size w w7):=by
    intro g7 c7 w7 hv7 hg7 hl7
    have hit2:=hit.kept hal
    rw [HXK.out]
    refine ⟨HQ3.out.appended hit2.it (fun b hb=>⟨by have:=hb.1; omega,hb.2,fun e=>by have:=hown b e; have:=hb.1; omega⟩) (by omega) HROW.out hv7 hg7 (by rw [hs6]; exact hl7) B6.size,B6.grown hg7 (by have:=B6.size; omega) (fun kx hx=>HQ3.out.2 kx hx)⟩
   clear c0 c1 c2 hrow HO hb2 hb2r B2 hal hbz hbz2 hit HCON
   go_wp2_with (at_builtin; refine wpList_append_lies _ rfl (.tmp 14) (.tmp 18) 73 rfl 0 75 i0 _ 5 72 Tryz.underlying73 hi hz0 hz1 hz2 rfl (by decide) _ k vs rfl HROW.out ⟨w2.heap.size,0,none⟩ 1 1 [.int .i64 z.cls,.int .i64 z.tag,.bool z.cons,.slice ab nb cb,.slice ak nk ck] rfl rfl (World.news_of_block (heap_alloc_new w2 (.cells #[.int .i64 z.cls,.int .i64 z.tag,.bool z.cons,.slice ab nb cb,.slice ak nk ck] 75))) (by intro u hu; simp only [List.mem_cons,List.not_mem_nil,or_false] at hu; rcases hu with rfl | rfl | rfl | rfl | rfl <;> rfl) (by decide) (by unfold maxLen; omega) (by omega) (Nat.zero_le _) (w2.heap.size+1) (by simp) ?_; intro g7 c7 w7 hv7 hg7 hl7 hlt7; have HN7:=HAPP.out g7 c7 w7 hv7 hg7 hl7; have HO7:Hid (_):=HN7.1; have B7:=HN7.2; clear hv7 hg7 hl7 hlt7 HN7 HAPP HQ3 HROW)
   go_roundw
   case rel=>exact ⟨k+1,_,c7,by omega,by go_num,rfl,HO7,B7⟩
   case measure=>simp [intOf]; omega
  ·obtain rfl:k=n:=by omega
   have HX:Hid (xs.take k=xs):=by show _=_; rw [List.take_of_length_le (by rw [HLX.out]; exact Nat.le_refl _)]
   go_wp2
   go_ret
   refine ⟨ao,cc,rfl,?_,hbr⟩
   have:=HO.out
   rw [HX.out] at this
   exact this
theorem listItemExi_R (a:Option Addr)(n c:Nat)(xs:List XP)(L:Nat)(w:World)(hLw:L≤w.heap.size)(h:XPs w a n xs)(hw:∀ k,k<n→W64 (xs.getD k default).id)(hl:ExL a n L w xs)(hn:n≤1000) :
  Calls Tryz.prog 110 #[.slice a n c,.func (Fn.func 111) #[] #[]] w fun e w'=>ItR L w.heap.size 3 (lstI (xs.map exI)) e w'∧Below w.heap.size w w':=by
 have hbx:=box5_below w
 have hsz:=box5_size w
 have HB5:Hid (_=_):=box5_new w
 have HE:Hid (_):=eachExi_R a n c xs L (box5 w) (by omega) (h.kept hbx) hw (hl.kept h hbx) hn
 clear h hw hl
 go_enter Tryz.func110,Tryz.ntmps110
 go_wp2_with fail
 refine Calls.mono HE.out ?_
 rintro e w2 ⟨ao,co,rfl,ho,hb2⟩
 have HK:Hid (KidsI 3 (fun b=>(b<L∨(box5 w).heap.size≤b)∧b<w2.heap.size) w2 ao n (xs.map exI)):=ho.kids
 have h5:=below_kept HB5.out hb2
 obtain ⟨_,q0,q1,q2,q3,q4,q5,q6,q7,q8,q9⟩:=Box5.of h5
 have H5:Hid (_=_):=h5
 have B2:Below w.heap.size w w2:=keepT hbx hb2
 have hs2:=hb2.size
 clear ho h5 hb2 HE
 go_wp2_with fail
 try simp only [Exit.inBlock,Exit.then]
 have T:=put5_touch w2 w.heap.size (.int .i64 0) (.int .i64 17) (.bool true) (.slice none 0 0) (.slice ao n co)
 have hZ:ListZ L (w.heap.size+1) 3 w2 ao n (xs.map exI):=⟨HK.out.mono (fun b hb=>⟨by have:=hb.1; omega,hb.2⟩)⟩
 exact bodyPost_ret (results_it rfl _ w.heap.size rfl _ _ _ _ _ _ (put5_heap H5.out _ _ _ _ _)) rfl ⟨⟨_,_,_,_,_,_,rfl,(hZ.itz (co:=co)).put hLw (by omega) _ _ _ _ _⟩,B2.trans (T.below (Nat.le_refl _) B2.size)⟩
end Go.Proofs.YtmdfbnlgfhjnoaaGreatDoor
