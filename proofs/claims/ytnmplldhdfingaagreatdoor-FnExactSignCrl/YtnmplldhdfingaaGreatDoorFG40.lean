import Derived.Test.YtnmplldhdfingaaGreatDoorFG38
import Derived.Test.YtnmplldhdfingaaGreatDoorFG39
set_option maxRecDepth 10000
set_option maxHeartbeats 8000000
set_option linter.unusedVariables false
namespace Go.Proofs.YtnmplldhdfingaaGreatDoor
open Go.RowKit Go.Sort
def goneitemr (y:GP)(an:Option Addr)(nn cn:Nat)(L R G B:Nat):RSpec where
 m:=15
 n:=17
 slots:=[3,4,5,6,7,8,9,10,11,12,13,14,15,16,100014,100015,100016]
 kills:=[[],[],[],[],[],[],[],[],[],[],[],[],[],[],[],[],[14]]
 pres:=[[],[],[],[],[],[],[],[],[],[],[],[],[],[],[],[],[]]
 fact:=fun k v w=>match k with
  | 0=>v=.pointer (some ⟨G,0,none⟩)
  | 1=>v=.agg #[.slice an nn cn]
  | 2=>∃ a1 n1 c1 k1 m1 e1,v=.agg #[.int .i64 (namI y.parts).cls,.int .i64 (namI y.parts).tag,.bool (namI y.parts).cons,.slice a1 n1 c1,.slice k1 m1 e1]∧ItZ L R 4 w (namI y.parts) a1 n1 c1 k1 m1 e1∧L≤G∧G+1<R
  | 3=>v=.pointer (some ⟨G,1,none⟩)
  | 4=>v=.int .i64 y.ser
  | 5=>∃ a2 n2 c2 k2 m2 e2,v=.agg #[.int .i64 (numI y.ser).cls,.int .i64 (numI y.ser).tag,.bool (numI y.ser).cons,.slice a2 n2 c2,.slice k2 m2 e2]∧ItZ L R 4 w (numI y.ser) a2 n2 c2 k2 m2 e2∧L≤G∧G+1<R
  | 6=>v=.pointer (some ⟨G,2,none⟩)
  | 7=>v=.int .i64 y.tm
  | 8=>∃ a3 n3 c3 k3 m3 e3,v=.agg #[.int .i64 (numI y.tm).cls,.int .i64 (numI y.tm).tag,.bool (numI y.tm).cons,.slice a3 n3 c3,.slice k3 m3 e3]∧ItZ L R 4 w (numI y.tm) a3 n3 c3 k3 m3 e3∧L≤G∧G+1<R
  | 9=>v=.pointer (some ⟨G,3,none⟩)
  | 10=>v=.int .i64 y.rs
  | 11=>∃ a4 n4 c4 k4 m4 e4,v=.agg #[.int .i64 (numI y.rs).cls,.int .i64 (numI y.rs).tag,.bool (numI y.rs).cons,.slice a4 n4 c4,.slice k4 m4 e4]∧ItZ L R 4 w (numI y.rs) a4 n4 c4 k4 m4 e4∧L≤G∧G+1<R
  | 12=>∃ gr,v=.slice (some ⟨gr,0,none⟩) 4 4∧KidZ L R w gr 5 [namI y.parts,numI y.ser,numI y.tm,numI y.rs]∧L≤G∧G+1<R
  | 13=>∃ a0 n0 c0 k0 m0 e0,v=.agg #[.int .i64 (goI y).cls,.int .i64 (goI y).tag,.bool (goI y).cons,.slice a0 n0 c0,.slice k0 m0 e0]∧ItZ L R 5 w (goI y) a0 n0 c0 k0 m0 e0∧L≤G∧G+1<R
  | 14=>∃ a0 n0 c0 k0 m0 e0,w.heap[(G+1)]? = some (.cells #[.int .i64 (goI y).cls,.int .i64 (goI y).tag,.bool (goI y).cons,.slice a0 n0 c0,.slice k0 m0 e0] 94 (0,0))∧ItZ L R 5 w (goI y) a0 n0 c0 k0 m0 e0∧L≤G∧G+1<R
  | 15=>w.heap[G]? = some (.cells #[.slice an nn cn,.int .i64 y.ser,.int .i64 y.tm,.int .i64 y.rs] 74 (0,0))
  | _=>w.heap[(G+1)]? = some (.cells #[.int .i64 0,.int .i64 0,.bool false,.slice none 0 0,.slice none 0 0] 94 (0,0))
theorem goneitemr_stb (y:GP)(an:Option Addr)(nn cn:Nat)(L R G B:Nat)(k:Nat)(hk:k<17):StB ((goneitemr y an nn cn L R G (B)).fact k):=by
 match k,hk with
 | 0,_=>exact fun _ _ _ h _=>h
 | 1,_=>exact fun _ _ _ h _=>h
 | 2,_=>exact fun _ _ _ ⟨a1,n1,c1,k1,m1,e1,hv,q_0,q_1⟩ hb=>⟨a1,n1,c1,k1,m1,e1,hv,q_0.kept hb,q_1⟩
 | 3,_=>exact fun _ _ _ h _=>h
 | 4,_=>exact fun _ _ _ h _=>h
 | 5,_=>exact fun _ _ _ ⟨a2,n2,c2,k2,m2,e2,hv,q_0,q_1⟩ hb=>⟨a2,n2,c2,k2,m2,e2,hv,q_0.kept hb,q_1⟩
 | 6,_=>exact fun _ _ _ h _=>h
 | 7,_=>exact fun _ _ _ h _=>h
 | 8,_=>exact fun _ _ _ ⟨a3,n3,c3,k3,m3,e3,hv,q_0,q_1⟩ hb=>⟨a3,n3,c3,k3,m3,e3,hv,q_0.kept hb,q_1⟩
 | 9,_=>exact fun _ _ _ h _=>h
 | 10,_=>exact fun _ _ _ h _=>h
 | 11,_=>exact fun _ _ _ ⟨a4,n4,c4,k4,m4,e4,hv,q_0,q_1⟩ hb=>⟨a4,n4,c4,k4,m4,e4,hv,q_0.kept hb,q_1⟩
 | 12,_=>exact fun _ _ _ ⟨gr,hv,q_0,q_1⟩ hb=>⟨gr,hv,q_0.kept hb,q_1⟩
 | 13,_=>exact fun _ _ _ ⟨a0,n0,c0,k0,m0,e0,hv,q_0,q_1⟩ hb=>⟨a0,n0,c0,k0,m0,e0,hv,q_0.kept hb,q_1⟩
 | 14,_=>exact fun _ _ _ ⟨a0,n0,c0,k0,m0,e0,q_0,q_1,q_2⟩ hb=>⟨a0,n0,c0,k0,m0,e0,below_kept q_0 hb,q_1.kept hb,q_2⟩
 | 15,_=>exact fun _ _ _ q_0 hb=>below_kept q_0 hb
 | 16,_=>exact fun _ _ _ q_0 hb=>below_kept q_0 hb
 | k+17,hk=>omega
theorem goneitemr_st14 (y:GP)(an:Option Addr)(nn cn:Nat)(L R G B:Nat){W W2:World}{cs:Array Value}{fr:Nat × Nat}(hg:W.heap[(G+1)]? = some (.cells cs 94 fr))(ht:Touch ((G+1)) ((G+1)+1) W W2)(k:Nat)(hk:k<17)(hne:k≠14)(hkill:14∉(goneitemr y an nn cn L R G (B)).kill k)(v:Value)(hfact:(goneitemr y an nn cn L R G (B)).fact k v W):(goneitemr y an nn cn L R G (B)).fact k v W2:=by
 match k,hk,hne,hkill,hfact with
 | 0,_,_,_,hq=>exact hq
 | 1,_,_,_,hq=>exact hq
 | 2,_,_,_,⟨a1,n1,c1,k1,m1,e1,hv,q_0,q_1⟩=>exact ⟨a1,n1,c1,k1,m1,e1,hv,q_0.touched ht (by omega),q_1⟩
 | 3,_,_,_,hq=>exact hq
 | 4,_,_,_,hq=>exact hq
 | 5,_,_,_,⟨a2,n2,c2,k2,m2,e2,hv,q_0,q_1⟩=>exact ⟨a2,n2,c2,k2,m2,e2,hv,q_0.touched ht (by omega),q_1⟩
 | 6,_,_,_,hq=>exact hq
 | 7,_,_,_,hq=>exact hq
 | 8,_,_,_,⟨a3,n3,c3,k3,m3,e3,hv,q_0,q_1⟩=>exact ⟨a3,n3,c3,k3,m3,e3,hv,q_0.touched ht (by omega),q_1⟩
 | 9,_,_,_,hq=>exact hq
 | 10,_,_,_,hq=>exact hq
 | 11,_,_,_,⟨a4,n4,c4,k4,m4,e4,hv,q_0,q_1⟩=>exact ⟨a4,n4,c4,k4,m4,e4,hv,q_0.touched ht (by omega),q_1⟩
 | 12,_,_,_,⟨gr,hv,q_0,q_1⟩=>exact ⟨gr,hv,q_0.touched ht (by omega),q_1⟩
 | 13,_,_,_,⟨a0,n0,c0,k0,m0,e0,hv,q_0,q_1⟩=>exact ⟨a0,n0,c0,k0,m0,e0,hv,q_0.touched ht (by omega),q_1⟩
 | 14,_,hne,_,_=>exact absurd rfl hne
 | 15,_,_,_,q_0=>exact box_box q_0 hg (by decide) ht
 | 16,_,_,hkill,_=>exact absurd (List.Mem.head _) hkill
 | k+17,hk,_,_,_=>omega
theorem goneItem_R (y:GP)(an:Option Addr)(nn cn:Nat)(L:Nat)(w:World)(hLw:L≤w.heap.size)(h:Pts w an nn y.parts)(hw:W64 y.ser∧W64 y.tm∧W64 y.rs)(ha:∀ k,k<nn→W64 (y.parts.getD k default).attr)(hn:nn≤1000) :
  Calls Tryz.prog 71 #[.agg #[.slice an nn cn,.int .i64 y.ser,.int .i64 y.tm,.int .i64 y.rs]] w fun e w'=>ItR L w.heap.size 5 (goI y) e w'∧Below w.heap.size w w':=by
 obtain ⟨w1,hw1⟩:∃ w1,w1=(w.alloc (.cells #[.slice an nn cn,.int .i64 y.ser,.int .i64 y.tm,.int .i64 y.rs] 74)).alloc (.cells #[.int .i64 0,.int .i64 0,.bool false,.slice none 0 0,.slice none 0 0] 94):=⟨_,rfl⟩
 have hbb:Below w.heap.size w w1:=by rw [hw1]; exact ((Below.refl _ _).alloc (Nat.le_refl _) _).alloc (by simp) _
 have HB1:Hid (_∧_):=two_blocks w (.cells #[.slice an nn cn,.int .i64 y.ser,.int .i64 y.tm,.int .i64 y.rs] 74) (.cells #[.int .i64 0,.int .i64 0,.bool false,.slice none 0 0,.slice none 0 0] 94)
 rw [← hw1] at HB1
 have hsz:w1.heap.size=w.heap.size+2:=by rw [hw1]; simp
 have HGB:L≤w.heap.size∧w.heap.size+1<w1.heap.size:=⟨hLw,by omega⟩
 have HLB:∀ W,Below w.heap.size w1 W→L≤W.heap.size:=fun W hW=>by have:=hW.size; omega
 have HBB:w.heap.size≤w1.heap.size:=hbb.size
 have HW:Hid (_=_):=hw1
 clear hw1
 go_enter Tryz.func71,Tryz.ntmps71
 go_upto_region 1 with fail
 rw [← HW.out]
 clear HW
 have stb:=goneitemr_stb y an nn cn L w1.heap.size w.heap.size (w.heap.size)
 refine wp_region_ri (goneitemr y an nn cn L w1.heap.size w.heap.size (w.heap.size)) [3,4,5,6,7,8,9,10,11,12,13,14,15,16] (w.heap.size) (fun a0=>a0.tmps.size=17∧aT a0 1=.pointer (some ⟨w.heap.size,0,none⟩)∧aT a0 2=.pointer (some ⟨(w.heap.size+1),0,none⟩)) (by kernel_rfl) rfl (by kernel_rfl) rfl ⟨rfl,rfl,rfl⟩ stb ?_ ?_ ?_
 ·exact vt2 (m:=15) (HB1.out.1) (HB1.out.2)
 ·rintro a0 ⟨hz,g1,g2⟩
  refine StepsRI.cons ?_ (StepsRI.cons ?_ (StepsRI.cons ?_ (StepsRI.cons ?_ (StepsRI.cons ?_ (StepsRI.cons ?_ (StepsRI.cons ?_ (StepsRI.cons ?_ (StepsRI.cons ?_ (StepsRI.cons ?_ (StepsRI.cons ?_ (StepsRI.cons ?_ (StepsRI.cons ?_ (StepsRI.cons ?_ (StepsRI.cons ?_ (StepsRI.nil)))))))))))))))
  all_goals intro lQ b W hI hUN hED KQ hKQ
  ·exact opw_field 74 1 0 rfl _ ((hI.fr.same 1 (by decide)).trans g1) _ (by kernel_rfl) (hKQ.out _ _ (hI.pu 0 3 hz hUN HBB stb (Below.refl _ _) rfl))
  ·have f:aT b 3=.pointer (some ⟨w.heap.size,0,none⟩):=hI.ge 0 hED
   have hg:=(hI.vo 15)
   have hc0:W.cell? ⟨w.heap.size,0,none⟩=some (.slice an nn cn):=qk hg rfl
   exact opw_load1 35 3 rfl _ f _ (by simp [Instr.loadAt,go_sem,hc0]) (hKQ.out _ _ (hI.pu 1 4 hz hUN HBB stb (Below.refl _ _) rfl))
  ·have f0:aT b 4=.agg #[.slice an nn cn]:=hI.ge 1 hED
   refine opw_c1 67 4 Tryz.func67 f0 ?_
   refine (nameItem_R an nn cn y.parts L W (HLB W hI.bel) (h.kept (hbb.trans hI.bel)) ha hn).mono ?_
   rintro r W2 ⟨⟨a1,n1,c1,k1,m1,e1,rfl,hzI⟩,hb⟩
   exact ⟨_,rfl,hKQ.out _ _ (hI.pu 2 5 hz hUN HBB stb hb ⟨a1,n1,c1,k1,m1,e1,rfl,((hzI.mono hI.bel.size).le (by decide)),HGB⟩)⟩
  ·exact opw_field 74 1 1 rfl _ ((hI.fr.same 1 (by decide)).trans g1) _ (by kernel_rfl) (hKQ.out _ _ (hI.pu 3 6 hz hUN HBB stb (Below.refl _ _) rfl))
  ·have f:=hI.ge 3 hED
   have hg:=(hI.vo 15)
   have hc:W.cell? ⟨w.heap.size,1,none⟩=some (.int .i64 y.ser):=qk hg rfl
   exact opw_load1 2 6 rfl _ f _ (by simp [Instr.loadAt,go_sem,hc]) (hKQ.out _ _ (hI.pu 4 7 hz hUN HBB stb (Below.refl _ _) rfl))
  ·have f0:aT b 7=.int .i64 y.ser:=hI.ge 4 hED
   refine opw_c1 68 7 Tryz.func68 f0 ?_
   refine (numberItem_R y.ser L W hw.1).mono ?_
   rintro r W2 ⟨⟨a2,n2,c2,k2,m2,e2,rfl,hzI⟩,hb⟩
   exact ⟨_,rfl,hKQ.out _ _ (hI.pu 5 8 hz hUN HBB stb hb ⟨a2,n2,c2,k2,m2,e2,rfl,((hzI.mono hI.bel.size).le (by decide)),HGB⟩)⟩
  ·exact opw_field 74 1 2 rfl _ ((hI.fr.same 1 (by decide)).trans g1) _ (by kernel_rfl) (hKQ.out _ _ (hI.pu 6 9 hz hUN HBB stb (Below.refl _ _) rfl))
  ·have f:=hI.ge 6 hED
   have hg:=(hI.vo 15)
   have hc:W.cell? ⟨w.heap.size,2,none⟩=some (.int .i64 y.tm):=qk hg rfl
   exact opw_load1 2 9 rfl _ f _ (by simp [Instr.loadAt,go_sem,hc]) (hKQ.out _ _ (hI.pu 7 10 hz hUN HBB stb (Below.refl _ _) rfl))
  ·have f0:aT b 10=.int .i64 y.tm:=hI.ge 7 hED
   refine opw_c1 68 10 Tryz.func68 f0 ?_
   refine (numberItem_R y.tm L W hw.2.1).mono ?_
   rintro r W2 ⟨⟨a3,n3,c3,k3,m3,e3,rfl,hzI⟩,hb⟩
   exact ⟨_,rfl,hKQ.out _ _ (hI.pu 8 11 hz hUN HBB stb hb ⟨a3,n3,c3,k3,m3,e3,rfl,((hzI.mono hI.bel.size).le (by decide)),HGB⟩)⟩
  ·exact opw_field 74 1 3 rfl _ ((hI.fr.same 1 (by decide)).trans g1) _ (by kernel_rfl) (hKQ.out _ _ (hI.pu 9 12 hz hUN HBB stb (Below.refl _ _) rfl))
  ·have f:=hI.ge 9 hED
   have hg:=(hI.vo 15)
   have hc:W.cell? ⟨w.heap.size,3,none⟩=some (.int .i64 y.rs):=qk hg rfl
   exact opw_load1 2 12 rfl _ f _ (by simp [Instr.loadAt,go_sem,hc]) (hKQ.out _ _ (hI.pu 10 13 hz hUN HBB stb (Below.refl _ _) rfl))
  ·have f0:aT b 13=.int .i64 y.rs:=hI.ge 10 hED
   refine opw_c1 68 13 Tryz.func68 f0 ?_
   refine (numberItem_R y.rs L W hw.2.2).mono ?_
   rintro r W2 ⟨⟨a4,n4,c4,k4,m4,e4,rfl,hzI⟩,hb⟩
   exact ⟨_,rfl,hKQ.out _ _ (hI.pu 11 14 hz hUN HBB stb hb ⟨a4,n4,c4,k4,m4,e4,rfl,((hzI.mono hI.bel.size).le (by decide)),HGB⟩)⟩
  ·obtain ⟨a1,n1,c1,k1,m1,e1,f1,o1,_⟩:=hI.ge 2 hED
   replace f1:aT b 5=_:=f1
   obtain ⟨a2,n2,c2,k2,m2,e2,f2,o2,_⟩:=hI.ge 5 hED
   replace f2:aT b 8=_:=f2
   obtain ⟨a3,n3,c3,k3,m3,e3,f3,o3,_⟩:=hI.ge 8 hED
   replace f3:aT b 11=_:=f3
   obtain ⟨a4,n4,c4,k4,m4,e4,f4,o4,_⟩:=hI.ge 11 hED
   replace f4:aT b 14=_:=f4
   refine opw_buildSliceT _ 4 _ rfl #[(0,.agg #[.int .i64 (namI y.parts).cls,.int .i64 (namI y.parts).tag,.bool (namI y.parts).cons,.slice a1 n1 c1,.slice k1 m1 e1]),(1,.agg #[.int .i64 (numI y.ser).cls,.int .i64 (numI y.ser).tag,.bool (numI y.ser).cons,.slice a2 n2 c2,.slice k2 m2 e2]),(2,.agg #[.int .i64 (numI y.tm).cls,.int .i64 (numI y.tm).tag,.bool (numI y.tm).cons,.slice a3 n3 c3,.slice k3 m3 e3]),(3,.agg #[.int .i64 (numI y.rs).cls,.int .i64 (numI y.rs).tag,.bool (numI y.rs).cons,.slice a4 n4 c4,.slice k4 m4 e4])] (by simp [ev,f1,f2,f3,f4]) (.slice (some ⟨W.heap.size,0,none⟩) 4 4) (W.alloc (.cells #[.int .i64 (namI y.parts).cls,.int .i64 (namI y.parts).tag,.bool (namI y.parts).cons,.slice a1 n1 c1,.slice k1 m1 e1,.int .i64 (numI y.ser).cls,.int .i64 (numI y.ser).tag,.bool (numI y.ser).cons,.slice a2 n2 c2,.slice k2 m2 e2,.int .i64 (numI y.tm).cls,.int .i64 (numI y.tm).tag,.bool (numI y.tm).cons,.slice a3 n3 c3,.slice k3 m3 e3,.int .i64 (numI y.rs).cls,.int .i64 (numI y.rs).tag,.bool (numI y.rs).cons,.slice a4 n4 c4,.slice k4 m4 e4] 94)) (by kernel_rfl) ?_
   exact hKQ.out _ _ (hI.pu 12 15 hz hUN HBB stb ((Below.refl _ _).alloc (Nat.le_refl _) _) ⟨W.heap.size,rfl,kidZ_n4 hI.bel.size o1 o2 o3 o4,HGB⟩)
  ·obtain ⟨gr,f0,o0,_⟩:=hI.ge 12 hED
   replace f0:aT b 15=_:=f0
   refine opw_c1 108 15 Tryz.func108 f0 ?_
   refine (structItem_R o0 rfl).mono ?_
   rintro r W2 ⟨⟨a0,n0,c0,k0,m0,e0,rfl,hzI⟩,hb⟩
   exact ⟨_,rfl,hKQ.out _ _ (hI.pu 13 16 hz hUN HBB stb hb ⟨a0,n0,c0,k0,m0,e0,rfl,hzI,HGB⟩)⟩
  ·have hgb:=(hI.vot1 16 14 (od rfl) (od rfl) hUN rfl)
   have fb:=((hI.fr.same 2 (by decide)).trans g2)
   have f:=hI.ge 13 hED
   obtain ⟨a0,n0,c0,k0,m0,e0,f,o_0,o_1⟩:=f
   refine wp_store_row 94 _ _ rfl ((w.heap.size+1)) _ fb f 94 _ hgb (by kernel_rfl) rfl (by simp [Value.oneCell']) ?_
   have ht:=setRow_touch W ((w.heap.size+1)) #[.int .i64 (goI y).cls,.int .i64 (goI y).tag,.bool (goI y).cons,.slice a0 n0 c0,.slice k0 m0 e0]
   exact hKQ.out _ _ (hI.store 14 (fun j hj=>by cases hj) (hI.bel.trans (ht.below (by first | exact HGE2 | omega) (Nat.le_trans HBB hI.bel.size))) (goneitemr_st14 y an nn cn L w1.heap.size w.heap.size (w.heap.size) hgb ht) ⟨a0,n0,c0,k0,m0,e0,(setRow_heap W ((w.heap.size+1)) _ _ _ _ hgb),o_0.touched ht (by omega),o_1⟩)
 ·intro b W hf hb F
  clear stb
  obtain ⟨a0,n0,c0,k0,m0,e0,hbx,hz,_⟩:=F 14 (od rfl) rfl
  rw [hf.eq]
  simp only [puts,Act.put,List.setIfInBounds_toArray,List.set_cons_zero,List.set_cons_succ]
  clear hf F
  generalize aT b=AT
  clear b
  go_wp2
  try simp only [Exit.inBlock,Exit.then]
  exact bodyPost_ret (results_it rfl _ (w.heap.size+1) rfl _ _ _ _ _ _ hbx) rfl ⟨⟨a0,n0,c0,k0,m0,e0,rfl,hz.mono hbb.size⟩,hbb.trans hb⟩
theorem Goi_next (xs:List GP)(k:Nat)(h:k<xs.length):(xs.take (k+1)).map goI=(xs.take k).map goI++[goI (xs.getD k default)]:=by
 rw [List.take_add_one,List.map_append]
 simp [h]
theorem eachGoi_R (a:Option Addr)(n c:Nat)(xs:List GP)(L:Nat)(w:World)(hLw:L≤w.heap.size)(h:Gns w a n xs)(hw:∀ k,k<n→GoW (xs.getD k default))(hn:n≤1000) :
  Calls Tryz.prog 113 #[.slice a n c,.func (Fn.func 71) #[] #[]] w fun e w'=>∃ ao co,e=.returned (.slice ao n co)∧OwnItZ 5 L w.heap.size w' ao n co (xs.map goI)∧Below w.heap.size w w':=by
 obtain ⟨i0,hi,hz0,hz1,hz2⟩:=info_parts Tryz.infoIt
 have H0:Hid (Gns w a n xs):=h
 have HPw:Hid (∀ k,k<n→GoW (xs.getD k default)):=hw
 have HLX:Hid (xs.length=n):=h.len
 clear h hw
 go_enter Tryz.func113,Tryz.ntmps113
 go_wp2
 go_loopw [5,10] (fun o i wr=>∃ (k:Nat) (ao:Option Addr) (cc:Nat),k≤n∧i=.int .i64 k∧o=.slice ao k cc∧Hid (OwnItZ 5 L w.heap.size wr ao k cc ((xs.take k).map goI))∧Below w.heap.size w wr) (fun _ i _=>n - (intOf i).toNat)
 case atStart=>exact ⟨0,none,0,Nat.zero_le _,rfl,rfl,ownItZ_none _ _ _ _,Below.refl _ _⟩
 case round =>
  obtain ⟨k,ao,cc,hk,rfl,rfl,HO,hbr⟩:=hrel
  have hws:=hbr.size
  by_cases hlt:k<n
  ·obtain ⟨b,off,an,nn,cn,rfl,hlb,hc,hp⟩:=H0.out.get k hlt
   obtain ⟨y,hy⟩:∃ y,y=xs.getD k default:=⟨_,rfl⟩
   rw [← hy] at hc hp
   have HYW:Hid (GoW y):=by show GoW _; rw [hy]; exact HPw.out k hlt
   have HPP:Hid (Pts w an nn y.parts):=hp
   have HNN:Hid (y.parts.length=nn):=hp.len
   obtain ⟨z,hz⟩:∃ z,z=goI y:=⟨_,rfl⟩
   have HXK:Hid ((xs.take (k+1)).map goI=(xs.take k).map goI++[z]):=by show _=_; rw [hz,hy]; exact Goi_next xs k (by rw [HLX.out]; exact hlt)
   obtain ⟨c0,c1,c2,c3⟩:=hc.of (w':=wr) (fun i=>hbr.cell (p:=⟨b,i,none⟩) hlb)
   clear hc hp
   have hkni:(k:Int)<(n:Int):=by omega
   have hbw:b<wr.heap.size:=by omega
   have hbz:Below wr.heap.size wr (wr.alloc (.cells #[.slice an nn cn,.int .i64 y.ser,.int .i64 y.tm,.int .i64 y.rs] 74)):=(Below.refl _ _).alloc (Nat.le_refl _) _
   have hbz2:Below w.heap.size w (wr.alloc (.cells #[.slice an nn cn,.int .i64 y.ser,.int .i64 y.tm,.int .i64 y.rs] 74)):=hbr.trans (hbz.mono hws)
   have HCON:Hid (Calls Tryz.prog 71 #[.agg #[.slice an nn cn,.int .i64 y.ser,.int .i64 y.tm,.int .i64 y.rs]] (wr.alloc (.cells #[.slice an nn cn,.int .i64 y.ser,.int .i64 y.tm,.int .i64 y.rs] 74)) fun e w'=>ItR L (wr.alloc (.cells #[.slice an nn cn,.int .i64 y.ser,.int .i64 y.tm,.int .i64 y.rs] 74)).heap.size 5 z e w'∧Below (wr.alloc (.cells #[.slice an nn cn,.int .i64 y.ser,.int .i64 y.tm,.int .i64 y.rs] 74)).heap.size (wr.alloc (.cells #[.slice an nn cn,.int .i64 y.ser,.int .i64 y.tm,.int .i64 y.rs] 74)) w'):=by rw [hz]; exact goneItem_R y an nn cn L _ (by have:=hbz.size; omega) (HPP.out.kept hbz2) HYW.out.1 (fun j hj=>HYW.out.2.1 j (by rw [HNN.out]; exact hj)) (by rw [← HNN.out]; exact HYW.out.2.2)
   clear hy hz
   go_wp2_with fail
   refine HCON.out.mono ?_
   rintro e w2 ⟨⟨ab,nb,cb,ak,nk,ck,rfl,hit⟩,hb2⟩
   have hb2r:Below wr.heap.size wr w2:=keepT hbz hb2
   have B2:Below w.heap.size w w2:=hbr.trans (hb2r.mono hws)
   have hal:Below w2.heap.size w2 (w2.alloc (.cells #[.int .i64 z.cls,.int .i64 z.tag,.bool z.cons,.slice ab nb cb,.slice ak nk ck] 94)):=(Below.refl _ _).alloc (Nat.le_refl _) _
   have B6:Below w.heap.size w (w2.alloc (.cells #[.int .i64 z.cls,.int .i64 z.tag,.bool z.cons,.slice ab nb cb,.slice ak nk ck] 94)):=B2.trans (hal.mono B2.size)
   have hs6:(w2.alloc (.cells #[.int .i64 z.cls,.int .i64 z.tag,.bool z.cons,.slice ab nb cb,.slice ak nk ck] 94)).heap.size=w2.heap.size+1:=by simp
   have hs2:=hb2r.size
   have hsz1:=hbz.size
   have HQ3:Hid (OwnItZ 5 L w.heap.size (w2.alloc (.cells #[.int .i64 z.cls,.int .i64 z.tag,.bool z.cons,.slice ab nb cb,.slice ak nk ck] 94)) ao k cc ((xs.take k).map goI)):=(HO.out.kept hb2r).kept hal
   obtain ⟨vs,hrow⟩:=HQ3.out.row
   have HROW:Hid (_):=hrow
   have hown:∀ b,(Value.slice ao k cc).ownBlock=some b→w.heap.size≤b∧b<wr.heap.size:=fun b hb=>by obtain ⟨vs0,hv0⟩:=HO.out.row; exact ⟨HO.out.2 b hb,(hv0.lt b hb).2⟩
   have HAPP:Hid (∀ g7 c7 w7,w7.ownsRow 0 94 5 (.slice (some ⟨g7,0,none⟩) (k+1) c7) (k+1) (vs++itc z ab nb cb ak nk ck)→(w2.alloc (.cells #[.int .i64 z.cls,.int .i64 z.tag,.bool z.cons,.slice ab nb cb,.slice ak nk ck] 94)).grownBy w7 (Value.slice ao k cc).ownBlock→((Value.slice ao k cc).ownBlock=some g7∨g7=w2.heap.size+1)→OwnItZ 5 L w.heap.size w7 (some ⟨g7,0,none⟩) (k+1) c7 ((xs.take (k+1)).map goI)∧Below w.heap.size w w7):=by
    intro g7 c7 w7 hv7 hg7 hl7
    have hit2:=hit.kept hal
    rw [HXK.out]
    refine ⟨HQ3.out.appended hit2.it (fun b hb=>⟨by have:=hb.1; omega,hb.2,fun e=>by have:=hown b e; have:=hb.1; omega⟩) (by omega) HROW.out hv7 hg7 (by rw [hs6]; exact hl7) B6.size,B6.grown hg7 (by have:=B6.size; omega) (fun kx hx=>HQ3.out.2 kx hx)⟩
   clear c0 c1 c2 c3 hrow HO hb2 hb2r B2 hal hbz hbz2 hit HCON
   go_wp2_with (at_builtin; refine wpList_append_lies _ rfl (.tmp 14) (.tmp 18) 92 rfl 0 94 i0 _ 5 72 Tryz.underlying92 hi hz0 hz1 hz2 rfl (by decide) _ k vs rfl HROW.out ⟨w2.heap.size,0,none⟩ 1 1 [.int .i64 z.cls,.int .i64 z.tag,.bool z.cons,.slice ab nb cb,.slice ak nk ck] rfl rfl (World.news_of_block (heap_alloc_new w2 (.cells #[.int .i64 z.cls,.int .i64 z.tag,.bool z.cons,.slice ab nb cb,.slice ak nk ck] 94))) (by intro u hu; simp only [List.mem_cons,List.not_mem_nil,or_false] at hu; rcases hu with rfl | rfl | rfl | rfl | rfl <;> rfl) (by decide) (by unfold maxLen; omega) (by omega) (Nat.zero_le _) (w2.heap.size+1) (by simp) ?_; intro g7 c7 w7 hv7 hg7 hl7 hlt7; have HN7:=HAPP.out g7 c7 w7 hv7 hg7 hl7; have HO7:Hid (_):=HN7.1; have B7:=HN7.2; clear hv7 hg7 hl7 hlt7 HN7 HAPP HQ3 HROW)
   go_roundw
   case rel=>exact ⟨k+1,_,c7,by omega,by go_num,rfl,HO7,B7⟩
   case measure=>simp [intOf]; omega
  ·obtain rfl:k=n:=by omega
   have HX:Hid (xs.take k=xs):=by show _=_; rw [List.take_of_length_le (by rw [HLX.out]; exact Nat.le_refl _)]
   go_wp2
   go_ret
   refine ⟨ao,cc,rfl,?_,hbr⟩
   have:=HO.out
   rw [HX.out] at this
   exact this
theorem listItemGoi_R (a:Option Addr)(n c:Nat)(xs:List GP)(L:Nat)(w:World)(hLw:L≤w.heap.size)(h:Gns w a n xs)(hw:∀ k,k<n→GoW (xs.getD k default))(hn:n≤1000) :
  Calls Tryz.prog 70 #[.slice a n c,.func (Fn.func 71) #[] #[]] w fun e w'=>ItR L w.heap.size 6 (lstI (xs.map goI)) e w'∧Below w.heap.size w w':=by
 have hbx:=box5_below w
 have hsz:=box5_size w
 have HB5:Hid (_=_):=box5_new w
 have HE:Hid (_):=eachGoi_R a n c xs L (box5 w) (by omega) (h.kept hbx) hw hn
 clear h hw
 go_enter Tryz.func70,Tryz.ntmps70
 go_wp2_with fail
 refine Calls.mono HE.out ?_
 rintro e w2 ⟨ao,co,rfl,ho,hb2⟩
 have HK:Hid (KidsI 6 (fun b=>(b<L∨(box5 w).heap.size≤b)∧b<w2.heap.size) w2 ao n (xs.map goI)):=ho.kids
 have h5:=below_kept HB5.out hb2
 obtain ⟨_,q0,q1,q2,q3,q4,q5,q6,q7,q8,q9⟩:=Box5.of h5
 have H5:Hid (_=_):=h5
 have B2:Below w.heap.size w w2:=keepT hbx hb2
 have hs2:=hb2.size
 clear ho h5 hb2 HE
 go_wp2_with fail
 try simp only [Exit.inBlock,Exit.then]
 have T:=put5_touch w2 w.heap.size (.int .i64 0) (.int .i64 17) (.bool true) (.slice none 0 0) (.slice ao n co)
 have hZ:ListZ L (w.heap.size+1) 6 w2 ao n (xs.map goI):=⟨HK.out.mono (fun b hb=>⟨by have:=hb.1; omega,hb.2⟩)⟩
 exact bodyPost_ret (results_it rfl _ w.heap.size rfl _ _ _ _ _ _ (put5_heap H5.out _ _ _ _ _)) rfl ⟨⟨_,_,_,_,_,_,rfl,(hZ.itz (co:=co)).put hLw (by omega) _ _ _ _ _⟩,B2.trans (T.below (Nat.le_refl _) B2.size)⟩
open Go.RowKit Go.Sort
structure CrW (x:CP):Prop where
 num:W64 x.num
 base:W64 x.base
 tm:W64 x.tm
 next:W64 x.next
 scope:W64 x.scope
theorem crW_of {x:CP}(h:crlP x):CrW x:=by
 obtain ⟨⟨_,h1,h2,h3,h4,_,h5,_⟩,_⟩:=h
 unfold timeP at h3 h4
 exact ⟨w64_of (by omega) (by omega),w64_of (by omega) (by omega),w64_of (by omega) (by omega),w64_of (by omega) (by omega),w64_of (by omega) (by omega)⟩
def ci2 (p1:Option Addr)(q1 r1:Nat)(p2:Option Addr)(q2 r2:Nat)(p3:Option Addr)(q3 r3:Nat)(x:CP)(l:List Int)(L R G B:Nat):RSpec where
 m:=28
 n:=29
 slots:=[3,4,5,6,7,8,9,10,11,12,13,14,15,16,17,18,19,20,21,22,23,24,25,26,27,28,29,2,100028]
 kills:=[[],[],[],[],[],[],[],[],[],[],[],[],[],[],[],[],[],[],[],[],[],[],[],[],[],[],[],[],[]]
 pres:=[[],[],[],[],[],[],[],[],[],[],[],[],[],[],[],[],[],[],[],[],[],[],[],[],[],[],[],[],[]]
 fact:=fun k v w=>match k with
  | 0=>v=.pointer (some ⟨G,0,none⟩)
  | 1=>v=.agg #[.slice p1 q1 r1]
  | 2=>∃ a1 n1 c1 k1 m1 e1,v=.agg #[.int .i64 (namI x.parts).cls,.int .i64 (namI x.parts).tag,.bool (namI x.parts).cons,.slice a1 n1 c1,.slice k1 m1 e1]∧ItZ L R 6 w (namI x.parts) a1 n1 c1 k1 m1 e1
  | 3=>v=.pointer (some ⟨G,1,none⟩)
  | 4=>v=.int .i64 x.num
  | 5=>∃ a2 n2 c2 k2 m2 e2,v=.agg #[.int .i64 (numI x.num).cls,.int .i64 (numI x.num).tag,.bool (numI x.num).cons,.slice a2 n2 c2,.slice k2 m2 e2]∧ItZ L R 6 w (numI x.num) a2 n2 c2 k2 m2 e2
  | 6=>v=.pointer (some ⟨G,2,none⟩)
  | 7=>v=.int .i64 x.base
  | 8=>∃ a3 n3 c3 k3 m3 e3,v=.agg #[.int .i64 (numI x.base).cls,.int .i64 (numI x.base).tag,.bool (numI x.base).cons,.slice a3 n3 c3,.slice k3 m3 e3]∧ItZ L R 6 w (numI x.base) a3 n3 c3 k3 m3 e3
  | 9=>v=.pointer (some ⟨G,3,none⟩)
  | 10=>v=.int .i64 x.tm
  | 11=>∃ a4 n4 c4 k4 m4 e4,v=.agg #[.int .i64 (numI x.tm).cls,.int .i64 (numI x.tm).tag,.bool (numI x.tm).cons,.slice a4 n4 c4,.slice k4 m4 e4]∧ItZ L R 6 w (numI x.tm) a4 n4 c4 k4 m4 e4
  | 12=>v=.pointer (some ⟨G,4,none⟩)
  | 13=>v=.int .i64 x.next
  | 14=>∃ a5 n5 c5 k5 m5 e5,v=.agg #[.int .i64 (numI x.next).cls,.int .i64 (numI x.next).tag,.bool (numI x.next).cons,.slice a5 n5 c5,.slice k5 m5 e5]∧ItZ L R 6 w (numI x.next) a5 n5 c5 k5 m5 e5
  | 15=>v=.pointer (some ⟨G,5,none⟩)
  | 16=>v=.int .i64 x.scope
  | 17=>∃ a6 n6 c6 k6 m6 e6,v=.agg #[.int .i64 (numI x.scope).cls,.int .i64 (numI x.scope).tag,.bool (numI x.scope).cons,.slice a6 n6 c6,.slice k6 m6 e6]∧ItZ L R 6 w (numI x.scope) a6 n6 c6 k6 m6 e6
  | 18=>v=.pointer (some ⟨G,6,none⟩)
  | 19=>v=.bool x.ind
  | 20=>∃ a7 n7 c7 k7 m7 e7,v=.agg #[.int .i64 (flgI x.ind).cls,.int .i64 (flgI x.ind).tag,.bool (flgI x.ind).cons,.slice a7 n7 c7,.slice k7 m7 e7]∧ItZ L R 6 w (flgI x.ind) a7 n7 c7 k7 m7 e7
  | 21=>v=.pointer (some ⟨G,7,none⟩)
  | 22=>v=.slice p2 q2 r2
  | 23=>∃ a8 n8 c8 k8 m8 e8,v=.agg #[.int .i64 (lstI (x.ents.map goI)).cls,.int .i64 (lstI (x.ents.map goI)).tag,.bool (lstI (x.ents.map goI)).cons,.slice a8 n8 c8,.slice k8 m8 e8]∧ItZ L R 6 w (lstI (x.ents.map goI)) a8 n8 c8 k8 m8 e8
  | 24=>∃ gr,v=.slice (some ⟨gr,0,none⟩) 8 8∧KidZ L R w gr 7 (crK x)
  | 25=>∃ a0 n0 c0 k0 m0 e0,v=.agg #[.int .i64 (boxI 4 (crK x)).cls,.int .i64 (boxI 4 (crK x)).tag,.bool (boxI 4 (crK x)).cons,.slice a0 n0 c0,.slice k0 m0 e0]∧ItZ L R 7 w (boxI 4 (crK x)) a0 n0 c0 k0 m0 e0
  | 26=>∃ a4 c4,v=.slice a4 l.length c4∧Own B w a4 l.length c4 l
  | 27=>∃ a4 c4,v=.slice a4 l.length c4∧Own B w a4 l.length c4 l
  | _=>w.heap[G]? = some (.cells #[.slice p1 q1 r1,.int .i64 x.num,.int .i64 x.base,.int .i64 x.tm,.int .i64 x.next,.int .i64 x.scope,.bool x.ind,.slice p2 q2 r2,.slice p3 q3 r3] 38 (0,0))
theorem ci2_stb (p1:Option Addr)(q1 r1:Nat)(p2:Option Addr)(q2 r2:Nat)(p3:Option Addr)(q3 r3:Nat)(x:CP)(l:List Int)(L R G B:Nat)(k:Nat)(hk:k<29):StB ((ci2 p1 q1 r1 p2 q2 r2 p3 q3 r3 x l L R G (B)).fact k):=by
 match k,hk with
 | 0,_=>exact fun _ _ _ h _=>h
 | 1,_=>exact fun _ _ _ h _=>h
 | 2,_=>exact fun _ _ _ ⟨a1,n1,c1,k1,m1,e1,hv,q_0⟩ hb=>⟨a1,n1,c1,k1,m1,e1,hv,q_0.kept hb⟩
 | 3,_=>exact fun _ _ _ h _=>h
 | 4,_=>exact fun _ _ _ h _=>h
 | 5,_=>exact fun _ _ _ ⟨a2,n2,c2,k2,m2,e2,hv,q_0⟩ hb=>⟨a2,n2,c2,k2,m2,e2,hv,q_0.kept hb⟩
 | 6,_=>exact fun _ _ _ h _=>h
 | 7,_=>exact fun _ _ _ h _=>h
 | 8,_=>exact fun _ _ _ ⟨a3,n3,c3,k3,m3,e3,hv,q_0⟩ hb=>⟨a3,n3,c3,k3,m3,e3,hv,q_0.kept hb⟩
 | 9,_=>exact fun _ _ _ h _=>h
 | 10,_=>exact fun _ _ _ h _=>h
 | 11,_=>exact fun _ _ _ ⟨a4,n4,c4,k4,m4,e4,hv,q_0⟩ hb=>⟨a4,n4,c4,k4,m4,e4,hv,q_0.kept hb⟩
 | 12,_=>exact fun _ _ _ h _=>h
 | 13,_=>exact fun _ _ _ h _=>h
 | 14,_=>exact fun _ _ _ ⟨a5,n5,c5,k5,m5,e5,hv,q_0⟩ hb=>⟨a5,n5,c5,k5,m5,e5,hv,q_0.kept hb⟩
 | 15,_=>exact fun _ _ _ h _=>h
 | 16,_=>exact fun _ _ _ h _=>h
 | 17,_=>exact fun _ _ _ ⟨a6,n6,c6,k6,m6,e6,hv,q_0⟩ hb=>⟨a6,n6,c6,k6,m6,e6,hv,q_0.kept hb⟩
 | 18,_=>exact fun _ _ _ h _=>h
 | 19,_=>exact fun _ _ _ h _=>h
 | 20,_=>exact fun _ _ _ ⟨a7,n7,c7,k7,m7,e7,hv,q_0⟩ hb=>⟨a7,n7,c7,k7,m7,e7,hv,q_0.kept hb⟩
 | 21,_=>exact fun _ _ _ h _=>h
 | 22,_=>exact fun _ _ _ h _=>h
 | 23,_=>exact fun _ _ _ ⟨a8,n8,c8,k8,m8,e8,hv,q_0⟩ hb=>⟨a8,n8,c8,k8,m8,e8,hv,q_0.kept hb⟩
 | 24,_=>exact fun _ _ _ ⟨gr,hv,q_0⟩ hb=>⟨gr,hv,q_0.kept hb⟩
 | 25,_=>exact fun _ _ _ ⟨a0,n0,c0,k0,m0,e0,hv,q_0⟩ hb=>⟨a0,n0,c0,k0,m0,e0,hv,q_0.kept hb⟩
 | 26,_=>exact fun _ _ _ ⟨a4,c4,hv,q_0⟩ hb=>⟨a4,c4,hv,q_0.kept hb⟩
 | 27,_=>exact fun _ _ _ ⟨a4,c4,hv,q_0⟩ hb=>⟨a4,c4,hv,q_0.kept hb⟩
 | 28,_=>exact fun _ _ _ q_0 hb=>below_kept q_0 hb
 | k+29,hk=>omega
theorem crlBody_any (p1:Option Addr)(q1 r1:Nat)(p2:Option Addr)(q2 r2:Nat)(p3:Option Addr)(q3 r3:Nat)(x:CP)(l:List Int)(w:World)(h:Crs w p1 q1 p2 q2 p3 q3 x)(hP:crlP x)(hE:enc 12 (boxI 4 (crK x))=some l) :
  Calls Tryz.prog 25 #[crv p1 q1 r1 p2 q2 r2 p3 q3 r3 x] w fun e w'=>∃ a' c',e=.returned (.slice a' l.length c')∧Own w.heap.size w' a' l.length c' l∧Below w.heap.size w w':=by
 show Calls Tryz.prog 25 #[.agg #[.slice p1 q1 r1,.int .i64 x.num,.int .i64 x.base,.int .i64 x.tm,.int .i64 x.next,.int .i64 x.scope,.bool x.ind,.slice p2 q2 r2,.slice p3 q3 r3]] w _
 obtain ⟨w0,hw0⟩:∃ w0,w0=w.alloc (.cells #[.slice p1 q1 r1,.int .i64 x.num,.int .i64 x.base,.int .i64 x.tm,.int .i64 x.next,.int .i64 x.scope,.bool x.ind,.slice p2 q2 r2,.slice p3 q3 r3] 38):=⟨_,rfl⟩
 have B0:Hid (Below w.heap.size w w0):=by show Below _ _ _; rw [hw0]; exact (Below.refl _ _).alloc (Nat.le_refl _) _
 have L0:Hid (w0.heap[w.heap.size]? = some (.cells #[.slice p1 q1 r1,.int .i64 x.num,.int .i64 x.base,.int .i64 x.tm,.int .i64 x.next,.int .i64 x.scope,.bool x.ind,.slice p2 q2 r2,.slice p3 q3 r3] 38 (0,0))):=by show _=_; rw [hw0]; exact heap_alloc_new w _
 have hl1:=h.nm.len
 have hl2:=h.en.len
 have h60:x.ents.length≤60:=hP.1.2.2.2.2.2.2.2.1
 have hn8:=hP.1.1.1.1
 have HNM:Hid (∀ W,Below w.heap.size w0 W→Calls Tryz.prog 67 #[.agg #[.slice p1 q1 r1]] W fun e w'=>ItR w.heap.size W.heap.size 4 (namI x.parts) e w'∧Below W.heap.size W w'):=fun W hW=>nameItem_R p1 q1 r1 x.parts w.heap.size W (B0.out.trans hW).size (h.nm.kept (B0.out.trans hW)) (fun k hk=>nameW hP.1.1.1 k (by omega)) (by omega)
 have HGL:Hid (∀ W,Below w.heap.size w0 W→Calls Tryz.prog 70 #[.slice p2 q2 r2,.func (Fn.func 71) #[] #[]] W fun e w'=>ItR w.heap.size W.heap.size 6 (lstI (x.ents.map goI)) e w'∧Below W.heap.size W w'):=fun W hW=>listItemGoi_R p2 q2 r2 x.ents w.heap.size W (B0.out.trans hW).size (h.en.kept (B0.out.trans hW)) (fun k hk=>goW_of (hP.2.1 k (by omega))) (by omega)
 have HWB:Hid (CrW x):=crW_of hP
 have HE:Hid (enc 12 (boxI 4 (crK x))=some l):=hE
 have HBB:w.heap.size≤w0.heap.size:=B0.out.size
 have HLW:w.heap.size≤w0.heap.size:=B0.out.size
 have HRR:w0.heap.size≤w0.heap.size:=Nat.le_refl _
 clear h hP hE hl1 hl2 h60 hn8
 go_enter Tryz.func25,Tryz.ntmps25
 go_upto_region 1 with fail
 rw [← hw0]
 clear hw0
 have stb:=ci2_stb p1 q1 r1 p2 q2 r2 p3 q3 r3 x l w.heap.size w0.heap.size w.heap.size (w.heap.size)
 refine wp_region_ri (ci2 p1 q1 r1 p2 q2 r2 p3 q3 r3 x l w.heap.size w0.heap.size w.heap.size (w.heap.size)) [2,3,4,5,6,7,8,9,10,11,12,13,14,15,16,17,18,19,20,21,22,23,24,25,26,27,28,29] (w.heap.size) (fun a0=>a0.tmps.size=30∧aT a0 1=.pointer (some ⟨w.heap.size,0,none⟩)) (by kernel_rfl) rfl (by kernel_rfl) rfl ⟨rfl,rfl⟩ stb ?_ ?_ ?_
 ·exact vt1 (m:=28) (L0.out)
 ·rintro a0 ⟨hz,g1⟩
  refine StepsRI.cons ?_ (StepsRI.cons ?_ (StepsRI.cons ?_ (StepsRI.cons ?_ (StepsRI.cons ?_ (StepsRI.cons ?_ (StepsRI.cons ?_ (StepsRI.cons ?_ (StepsRI.cons ?_ (StepsRI.cons ?_ (StepsRI.cons ?_ (StepsRI.cons ?_ (StepsRI.cons ?_ (StepsRI.cons ?_ (StepsRI.cons ?_ (StepsRI.cons ?_ (StepsRI.cons ?_ (StepsRI.cons ?_ (StepsRI.cons ?_ (StepsRI.cons ?_ (StepsRI.cons ?_ (StepsRI.cons ?_ (StepsRI.cons ?_ (StepsRI.cons ?_ (StepsRI.cons ?_ (StepsRI.cons ?_ (StepsRI.cons ?_ (StepsRI.cons ?_ (StepsRI.nil))))))))))))))))))))))))))))
  all_goals intro lQ b W hI hUN hED KQ hKQ
  ·exact opw_field 38 1 0 rfl _ ((hI.fr.same 1 (by decide)).trans g1) _ (by kernel_rfl) (hKQ.out _ _ (hI.pu 0 3 hz hUN HBB stb (Below.refl _ _) rfl))
  ·have f:aT b 3=.pointer (some ⟨w.heap.size,0,none⟩):=hI.ge 0 hED
   have hg:=(hI.vo 28)
   have hc0:W.cell? ⟨w.heap.size,0,none⟩=some (.slice p1 q1 r1):=qk hg rfl
   exact opw_load1 35 3 rfl _ f _ (by simp [Instr.loadAt,go_sem,hc0]) (hKQ.out _ _ (hI.pu 1 4 hz hUN HBB stb (Below.refl _ _) rfl))
  ·have f0:aT b 4=.agg #[.slice p1 q1 r1]:=hI.ge 1 hED
   refine opw_c1 67 4 Tryz.func67 f0 ?_
   refine (HNM.out W hI.bel).mono ?_
   rintro r W2 ⟨⟨a1,n1,c1,k1,m1,e1,rfl,hzI⟩,hb⟩
   exact ⟨_,rfl,hKQ.out _ _ (hI.pu 2 5 hz hUN HBB stb hb ⟨a1,n1,c1,k1,m1,e1,rfl,(hzI.mono (Nat.le_trans HRR hI.bel.size)).le (by decide)⟩)⟩
  ·exact opw_field 38 1 1 rfl _ ((hI.fr.same 1 (by decide)).trans g1) _ (by kernel_rfl) (hKQ.out _ _ (hI.pu 3 6 hz hUN HBB stb (Below.refl _ _) rfl))
  ·have f:=hI.ge 3 hED
   have hg:=(hI.vo 28)
   have hc:W.cell? ⟨w.heap.size,1,none⟩=some (.int .i64 x.num):=qk hg rfl
   exact opw_load1 2 6 rfl _ f _ (by simp [Instr.loadAt,go_sem,hc]) (hKQ.out _ _ (hI.pu 4 7 hz hUN HBB stb (Below.refl _ _) rfl))
  ·have f0:aT b 7=.int .i64 x.num:=hI.ge 4 hED
   refine opw_c1 68 7 Tryz.func68 f0 ?_
   refine (numberItem_R x.num w.heap.size W HWB.out.num).mono ?_
   rintro r W2 ⟨⟨a2,n2,c2,k2,m2,e2,rfl,hzI⟩,hb⟩
   exact ⟨_,rfl,hKQ.out _ _ (hI.pu 5 8 hz hUN HBB stb hb ⟨a2,n2,c2,k2,m2,e2,rfl,(hzI.mono (Nat.le_trans HRR hI.bel.size)).le (by decide)⟩)⟩
  ·exact opw_field 38 1 2 rfl _ ((hI.fr.same 1 (by decide)).trans g1) _ (by kernel_rfl) (hKQ.out _ _ (hI.pu 6 9 hz hUN HBB stb (Below.refl _ _) rfl))
  ·have f:=hI.ge 6 hED
   have hg:=(hI.vo 28)
   have hc:W.cell? ⟨w.heap.size,2,none⟩=some (.int .i64 x.base):=qk hg rfl
   exact opw_load1 2 9 rfl _ f _ (by simp [Instr.loadAt,go_sem,hc]) (hKQ.out _ _ (hI.pu 7 10 hz hUN HBB stb (Below.refl _ _) rfl))
  ·have f0:aT b 10=.int .i64 x.base:=hI.ge 7 hED
   refine opw_c1 68 10 Tryz.func68 f0 ?_
   refine (numberItem_R x.base w.heap.size W HWB.out.base).mono ?_
   rintro r W2 ⟨⟨a3,n3,c3,k3,m3,e3,rfl,hzI⟩,hb⟩
   exact ⟨_,rfl,hKQ.out _ _ (hI.pu 8 11 hz hUN HBB stb hb ⟨a3,n3,c3,k3,m3,e3,rfl,(hzI.mono (Nat.le_trans HRR hI.bel.size)).le (by decide)⟩)⟩
  ·exact opw_field 38 1 3 rfl _ ((hI.fr.same 1 (by decide)).trans g1) _ (by kernel_rfl) (hKQ.out _ _ (hI.pu 9 12 hz hUN HBB stb (Below.refl _ _) rfl))
  ·have f:=hI.ge 9 hED
   have hg:=(hI.vo 28)
   have hc:W.cell? ⟨w.heap.size,3,none⟩=some (.int .i64 x.tm):=qk hg rfl
   exact opw_load1 2 12 rfl _ f _ (by simp [Instr.loadAt,go_sem,hc]) (hKQ.out _ _ (hI.pu 10 13 hz hUN HBB stb (Below.refl _ _) rfl))
  ·have f0:aT b 13=.int .i64 x.tm:=hI.ge 10 hED
   refine opw_c1 68 13 Tryz.func68 f0 ?_
   refine (numberItem_R x.tm w.heap.size W HWB.out.tm).mono ?_
   rintro r W2 ⟨⟨a4,n4,c4,k4,m4,e4,rfl,hzI⟩,hb⟩
   exact ⟨_,rfl,hKQ.out _ _ (hI.pu 11 14 hz hUN HBB stb hb ⟨a4,n4,c4,k4,m4,e4,rfl,(hzI.mono (Nat.le_trans HRR hI.bel.size)).le (by decide)⟩)⟩
  ·exact opw_field 38 1 4 rfl _ ((hI.fr.same 1 (by decide)).trans g1) _ (by kernel_rfl) (hKQ.out _ _ (hI.pu 12 15 hz hUN HBB stb (Below.refl _ _) rfl))
  ·have f:=hI.ge 12 hED
   have hg:=(hI.vo 28)
   have hc:W.cell? ⟨w.heap.size,4,none⟩=some (.int .i64 x.next):=qk hg rfl
   exact opw_load1 2 15 rfl _ f _ (by simp [Instr.loadAt,go_sem,hc]) (hKQ.out _ _ (hI.pu 13 16 hz hUN HBB stb (Below.refl _ _) rfl))
  ·have f0:aT b 16=.int .i64 x.next:=hI.ge 13 hED
   refine opw_c1 68 16 Tryz.func68 f0 ?_
   refine (numberItem_R x.next w.heap.size W HWB.out.next).mono ?_
   rintro r W2 ⟨⟨a5,n5,c5,k5,m5,e5,rfl,hzI⟩,hb⟩
   exact ⟨_,rfl,hKQ.out _ _ (hI.pu 14 17 hz hUN HBB stb hb ⟨a5,n5,c5,k5,m5,e5,rfl,(hzI.mono (Nat.le_trans HRR hI.bel.size)).le (by decide)⟩)⟩
  ·exact opw_field 38 1 5 rfl _ ((hI.fr.same 1 (by decide)).trans g1) _ (by kernel_rfl) (hKQ.out _ _ (hI.pu 15 18 hz hUN HBB stb (Below.refl _ _) rfl))
  ·have f:=hI.ge 15 hED
   have hg:=(hI.vo 28)
   have hc:W.cell? ⟨w.heap.size,5,none⟩=some (.int .i64 x.scope):=qk hg rfl
   exact opw_load1 2 18 rfl _ f _ (by simp [Instr.loadAt,go_sem,hc]) (hKQ.out _ _ (hI.pu 16 19 hz hUN HBB stb (Below.refl _ _) rfl))
  ·have f0:aT b 19=.int .i64 x.scope:=hI.ge 16 hED
   refine opw_c1 68 19 Tryz.func68 f0 ?_
   refine (numberItem_R x.scope w.heap.size W HWB.out.scope).mono ?_
   rintro r W2 ⟨⟨a6,n6,c6,k6,m6,e6,rfl,hzI⟩,hb⟩
   exact ⟨_,rfl,hKQ.out _ _ (hI.pu 17 20 hz hUN HBB stb hb ⟨a6,n6,c6,k6,m6,e6,rfl,(hzI.mono (Nat.le_trans HRR hI.bel.size)).le (by decide)⟩)⟩
  ·exact opw_field 38 1 6 rfl _ ((hI.fr.same 1 (by decide)).trans g1) _ (by kernel_rfl) (hKQ.out _ _ (hI.pu 18 21 hz hUN HBB stb (Below.refl _ _) rfl))
  ·have f:=hI.ge 18 hED
   have hg:=(hI.vo 28)
   have hc:W.cell? ⟨w.heap.size,6,none⟩=some (.bool x.ind):=qk hg rfl
   exact opw_load1 4 21 rfl _ f _ (by simp [Instr.loadAt,go_sem,hc]) (hKQ.out _ _ (hI.pu 19 22 hz hUN HBB stb (Below.refl _ _) rfl))
  ·have f0:aT b 22=.bool x.ind:=hI.ge 19 hED
   refine opw_c1 69 22 Tryz.func69 f0 ?_
   refine (flagItem_R x.ind W w.heap.size (Nat.le_trans HLW hI.bel.size)).mono ?_
   rintro r W2 ⟨⟨a7,n7,c7,k7,m7,e7,rfl,hzI⟩,hb⟩
   exact ⟨_,rfl,hKQ.out _ _ (hI.pu 20 23 hz hUN HBB stb hb ⟨a7,n7,c7,k7,m7,e7,rfl,(hzI.mono (Nat.le_trans HRR hI.bel.size)).le (by decide)⟩)⟩
  ·exact opw_field 38 1 7 rfl _ ((hI.fr.same 1 (by decide)).trans g1) _ (by kernel_rfl) (hKQ.out _ _ (hI.pu 21 24 hz hUN HBB stb (Below.refl _ _) rfl))
  ·have f:=hI.ge 21 hED
   have hg:=(hI.vo 28)
   have hc:W.cell? ⟨w.heap.size,7,none⟩=some (.slice p2 q2 r2):=qk hg rfl
   exact opw_load1 36 24 rfl _ f _ (by simp [Instr.loadAt,go_sem,hc]) (hKQ.out _ _ (hI.pu 22 25 hz hUN HBB stb (Below.refl _ _) rfl))
  ·have f0:aT b 25=.slice p2 q2 r2:=hI.ge 22 hED
   refine opw_call 70 #[.tmp 25,.func 71] _ _ _ rfl Tryz.func70 (by kernel_rfl) rfl #[.slice p2 q2 r2,.func (Fn.func 71) #[] #[]] (by simp [ev,f0]; rfl) ?_
   refine (HGL.out W hI.bel).mono ?_
   rintro r W2 ⟨⟨a8,n8,c8,k8,m8,e8,rfl,hzI⟩,hb⟩
   exact ⟨_,rfl,hKQ.out _ _ (hI.pu 23 26 hz hUN HBB stb hb ⟨a8,n8,c8,k8,m8,e8,rfl,(hzI.mono (Nat.le_trans HRR hI.bel.size)).le (by decide)⟩)⟩
  ·obtain ⟨a1,n1,c1,k1,m1,e1,f1,o1⟩:=hI.ge 2 hED
   replace f1:aT b 5=_:=f1
   obtain ⟨a2,n2,c2,k2,m2,e2,f2,o2⟩:=hI.ge 5 hED
   replace f2:aT b 8=_:=f2
   obtain ⟨a3,n3,c3,k3,m3,e3,f3,o3⟩:=hI.ge 8 hED
   replace f3:aT b 11=_:=f3
   obtain ⟨a4,n4,c4,k4,m4,e4,f4,o4⟩:=hI.ge 11 hED
   replace f4:aT b 14=_:=f4
   obtain ⟨a5,n5,c5,k5,m5,e5,f5,o5⟩:=hI.ge 14 hED
   replace f5:aT b 17=_:=f5
   obtain ⟨a6,n6,c6,k6,m6,e6,f6,o6⟩:=hI.ge 17 hED
   replace f6:aT b 20=_:=f6
   obtain ⟨a7,n7,c7,k7,m7,e7,f7,o7⟩:=hI.ge 20 hED
   replace f7:aT b 23=_:=f7
   obtain ⟨a8,n8,c8,k8,m8,e8,f8,o8⟩:=hI.ge 23 hED
   replace f8:aT b 26=_:=f8
   refine opw_buildSliceT _ 8 _ rfl #[(0,.agg #[.int .i64 (namI x.parts).cls,.int .i64 (namI x.parts).tag,.bool (namI x.parts).cons,.slice a1 n1 c1,.slice k1 m1 e1]),(1,.agg #[.int .i64 (numI x.num).cls,.int .i64 (numI x.num).tag,.bool (numI x.num).cons,.slice a2 n2 c2,.slice k2 m2 e2]),(2,.agg #[.int .i64 (numI x.base).cls,.int .i64 (numI x.base).tag,.bool (numI x.base).cons,.slice a3 n3 c3,.slice k3 m3 e3]),(3,.agg #[.int .i64 (numI x.tm).cls,.int .i64 (numI x.tm).tag,.bool (numI x.tm).cons,.slice a4 n4 c4,.slice k4 m4 e4]),(4,.agg #[.int .i64 (numI x.next).cls,.int .i64 (numI x.next).tag,.bool (numI x.next).cons,.slice a5 n5 c5,.slice k5 m5 e5]),(5,.agg #[.int .i64 (numI x.scope).cls,.int .i64 (numI x.scope).tag,.bool (numI x.scope).cons,.slice a6 n6 c6,.slice k6 m6 e6]),(6,.agg #[.int .i64 (flgI x.ind).cls,.int .i64 (flgI x.ind).tag,.bool (flgI x.ind).cons,.slice a7 n7 c7,.slice k7 m7 e7]),(7,.agg #[.int .i64 (lstI (x.ents.map goI)).cls,.int .i64 (lstI (x.ents.map goI)).tag,.bool (lstI (x.ents.map goI)).cons,.slice a8 n8 c8,.slice k8 m8 e8])] (by simp [ev,f1,f2,f3,f4,f5,f6,f7,f8]) (.slice (some ⟨W.heap.size,0,none⟩) 8 8) (W.alloc (.cells #[.int .i64 (namI x.parts).cls,.int .i64 (namI x.parts).tag,.bool (namI x.parts).cons,.slice a1 n1 c1,.slice k1 m1 e1,.int .i64 (numI x.num).cls,.int .i64 (numI x.num).tag,.bool (numI x.num).cons,.slice a2 n2 c2,.slice k2 m2 e2,.int .i64 (numI x.base).cls,.int .i64 (numI x.base).tag,.bool (numI x.base).cons,.slice a3 n3 c3,.slice k3 m3 e3,.int .i64 (numI x.tm).cls,.int .i64 (numI x.tm).tag,.bool (numI x.tm).cons,.slice a4 n4 c4,.slice k4 m4 e4,.int .i64 (numI x.next).cls,.int .i64 (numI x.next).tag,.bool (numI x.next).cons,.slice a5 n5 c5,.slice k5 m5 e5,.int .i64 (numI x.scope).cls,.int .i64 (numI x.scope).tag,.bool (numI x.scope).cons,.slice a6 n6 c6,.slice k6 m6 e6,.int .i64 (flgI x.ind).cls,.int .i64 (flgI x.ind).tag,.bool (flgI x.ind).cons,.slice a7 n7 c7,.slice k7 m7 e7,.int .i64 (lstI (x.ents.map goI)).cls,.int .i64 (lstI (x.ents.map goI)).tag,.bool (lstI (x.ents.map goI)).cons,.slice a8 n8 c8,.slice k8 m8 e8] 94)) (by kernel_rfl) ?_
   exact hKQ.out _ _ (hI.pu 24 27 hz hUN HBB stb ((Below.refl _ _).alloc (Nat.le_refl _) _) ⟨W.heap.size,rfl,kidZ_n8 (Nat.le_trans HRR hI.bel.size) o1 o2 o3 o4 o5 o6 o7 o8⟩)
  ·obtain ⟨gr,f0,o0⟩:=hI.ge 24 hED
   replace f0:aT b 27=_:=f0
   refine opw_call 66 #[.const (.int .i64 4),.tmp 27] _ _ _ rfl Tryz.func66 (by kernel_rfl) rfl #[.int .i64 4,.slice (some ⟨gr,0,none⟩) 8 8] (by simp [ev,evc,f0]) ?_
   refine (ownItem_R 4 o0 rfl).mono ?_
   rintro r W2 ⟨⟨a0,n0,c0,k0,m0,e0,rfl,hzI⟩,hb⟩
   exact ⟨_,rfl,hKQ.out _ _ (hI.pu 25 28 hz hUN HBB stb hb ⟨a0,n0,c0,k0,m0,e0,rfl,hzI⟩)⟩
  ·obtain ⟨a0,n0,c0,k0,m0,e0,f0,o0⟩:=hI.ge 25 hED
   replace f0:aT b 28=_:=f0
   refine opw_c1 65 28 Tryz.func65 f0 ?_
   refine (longAt_all 7 12 (boxI 4 (crK x)) l a0 n0 c0 k0 m0 e0 W HE.out o0.it.row.row o0.it.nil o0.it.kids.kids).mono ?_
   rintro r W2 ⟨a4,c4,rfl,ho,hb⟩
   exact ⟨_,rfl,hKQ.out _ _ (hI.pu 26 29 hz hUN HBB stb hb ⟨a4,c4,rfl,ho.mono (Nat.le_trans HBB hI.bel.size)⟩)⟩
  ·have f:=hI.ge 26 hED
   exact opw_assign 29 rfl (hKQ.out _ _ (hI.pu 27 2 hz hUN HBB stb (Below.refl _ _) f))
 ·intro b W hf hb F
  clear stb
  obtain ⟨a4,c4,e2,ho⟩:=F 27 (od rfl) rfl
  replace e2:aT b 2=.slice a4 l.length c4:=e2
  rw [hf.eq]
  simp only [puts,Act.put,List.setIfInBounds_toArray,List.set_cons_zero,List.set_cons_succ,e2]
  clear hf F e2
  generalize aT b=AT
  clear b
  go_wp2
  go_ret
  exact ⟨a4,c4,rfl,ho,B0.out.trans hb⟩
end Go.Proofs.YtnmplldhdfingaaGreatDoor
