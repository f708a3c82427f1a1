import Derived.Test.YtkdandggklpppaaGreatDoorFE22
import Derived.Test.YtkdandggklpppaaGreatDoorFE36
set_option maxRecDepth 10000
set_option maxHeartbeats 8000000
set_option linter.unusedVariables false
namespace Go.Proofs.YtkdandggklpppaaGreatDoor
open Go.RowKit Go.Sort
def goneitemr (y:GP)(an:Option Addr)(nn cn:Nat)(L R G B:Nat):RSpec where
 m:=15
 n:=17
 slots:=[3,4,5,6,7,8,9,10,11,12,13,14,15,16,100014,100015,100016]
 kills:=[[],[],[],[],[],[],[],[],[],[],[],[],[],[],[],[],[14]]
 pres:=[[],[],[],[],[],[],[],[],[],[],[],[],[],[],[],[],[]]
 fact:=fun k v w=>match k with
  | 0=>v=.pointer (some ⟨G,0,none⟩)
  | 1=>v=.agg #[.slice an nn cn]
  | 2=>∃ a1 n1 c1 k1 m1 e1,v=.agg #[.int .i64 (namI y.parts).cls,.int .i64 (namI y.parts).tag,.bool (namI y.parts).cons,.slice a1 n1 c1,.slice k1 m1 e1]∧ItZ L R 4 w (namI y.parts) a1 n1 c1 k1 m1 e1∧L≤G∧G+1<R
  | 3=>v=.pointer (some ⟨G,1,none⟩)
  | 4=>v=.int .i64 y.ser
  | 5=>∃ a2 n2 c2 k2 m2 e2,v=.agg #[.int .i64 (numI y.ser).cls,.int .i64 (numI y.ser).tag,.bool (numI y.ser).cons,.slice a2 n2 c2,.slice k2 m2 e2]∧ItZ L R 4 w (numI y.ser) a2 n2 c2 k2 m2 e2∧L≤G∧G+1<R
  | 6=>v=.pointer (some ⟨G,2,none⟩)
  | 7=>v=.int .i64 y.tm
  | 8=>∃ a3 n3 c3 k3 m3 e3,v=.agg #[.int .i64 (numI y.tm).cls,.int .i64 (numI y.tm).tag,.bool (numI y.tm).cons,.slice a3 n3 c3,.slice k3 m3 e3]∧ItZ L R 4 w (numI y.tm) a3 n3 c3 k3 m3 e3∧L≤G∧G+1<R
  | 9=>v=.pointer (some ⟨G,3,none⟩)
  | 10=>v=.int .i64 y.rs
  | 11=>∃ a4 n4 c4 k4 m4 e4,v=.agg #[.int .i64 (numI y.rs).cls,.int .i64 (numI y.rs).tag,.bool (numI y.rs).cons,.slice a4 n4 c4,.slice k4 m4 e4]∧ItZ L R 4 w (numI y.rs) a4 n4 c4 k4 m4 e4∧L≤G∧G+1<R
  | 12=>∃ gr,v=.slice (some ⟨gr,0,none⟩) 4 4∧KidZ L R w gr 5 [namI y.parts,numI y.ser,numI y.tm,numI y.rs]∧L≤G∧G+1<R
  | 13=>∃ a0 n0 c0 k0 m0 e0,v=.agg #[.int .i64 (goI y).cls,.int .i64 (goI y).tag,.bool (goI y).cons,.slice a0 n0 c0,.slice k0 m0 e0]∧ItZ L R 5 w (goI y) a0 n0 c0 k0 m0 e0∧L≤G∧G+1<R
  | 14=>∃ a0 n0 c0 k0 m0 e0,w.heap[(G+1)]? = some (.cells #[.int .i64 (goI y).cls,.int .i64 (goI y).tag,.bool (goI y).cons,.slice a0 n0 c0,.slice k0 m0 e0] 81 (0,0))∧ItZ L R 5 w (goI y) a0 n0 c0 k0 m0 e0∧L≤G∧G+1<R
  | 15=>w.heap[G]? = some (.cells #[.slice an nn cn,.int .i64 y.ser,.int .i64 y.tm,.int .i64 y.rs] 65 (0,0))
  | _=>w.heap[(G+1)]? = some (.cells #[.int .i64 0,.int .i64 0,.bool false,.slice none 0 0,.slice none 0 0] 81 (0,0))
theorem goneitemr_stb (y:GP)(an:Option Addr)(nn cn:Nat)(L R G B:Nat)(k:Nat)(hk:k<17):StB ((goneitemr y an nn cn L R G (B)).fact k):=by
 match k,hk with
 | 0,_=>exact fun _ _ _ h _=>h
 | 1,_=>exact fun _ _ _ h _=>h
 | 2,_=>exact fun _ _ _ ⟨a1,n1,c1,k1,m1,e1,hv,q_0,q_1⟩ hb=>⟨a1,n1,c1,k1,m1,e1,hv,q_0.kept hb,q_1⟩
 | 3,_=>exact fun _ _ _ h _=>h
 | 4,_=>exact fun _ _ _ h _=>h
 | 5,_=>exact fun _ _ _ ⟨a2,n2,c2,k2,m2,e2,hv,q_0,q_1⟩ hb=>⟨a2,n2,c2,k2,m2,e2,hv,q_0.kept hb,q_1⟩
 | 6,_=>exact fun _ _ _ h _=>h
 | 7,_=>exact fun _ _ _ h _=>h
 | 8,_=>exact fun _ _ _ ⟨a3,n3,c3,k3,m3,e3,hv,q_0,q_1⟩ hb=>⟨a3,n3,c3,k3,m3,e3,hv,q_0.kept hb,q_1⟩
 | 9,_=>exact fun _ _ _ h _=>h
 | 10,_=>exact fun _ _ _ h _=>h
 | 11,_=>exact fun _ _ _ ⟨a4,n4,c4,k4,m4,e4,hv,q_0,q_1⟩ hb=>⟨a4,n4,c4,k4,m4,e4,hv,q_0.kept hb,q_1⟩
 | 12,_=>exact fun _ _ _ ⟨gr,hv,q_0,q_1⟩ hb=>⟨gr,hv,q_0.kept hb,q_1⟩
 | 13,_=>exact fun _ _ _ ⟨a0,n0,c0,k0,m0,e0,hv,q_0,q_1⟩ hb=>⟨a0,n0,c0,k0,m0,e0,hv,q_0.kept hb,q_1⟩
 | 14,_=>exact fun _ _ _ ⟨a0,n0,c0,k0,m0,e0,q_0,q_1,q_2⟩ hb=>⟨a0,n0,c0,k0,m0,e0,below_kept q_0 hb,q_1.kept hb,q_2⟩
 | 15,_=>exact fun _ _ _ q_0 hb=>below_kept q_0 hb
 | 16,_=>exact fun _ _ _ q_0 hb=>below_kept q_0 hb
 | k+17,hk=>omega
theorem goneitemr_st14 (y:GP)(an:Option Addr)(nn cn:Nat)(L R G B:Nat){W W2:World}{cs:Array Value}{fr:Nat × Nat}(hg:W.heap[(G+1)]? = some (.cells cs 81 fr))(ht:Touch ((G+1)) ((G+1)+1) W W2)(k:Nat)(hk:k<17)(hne:k≠14)(hkill:14∉(goneitemr y an nn cn L R G (B)).kill k)(v:Value)(hfact:(goneitemr y an nn cn L R G (B)).fact k v W):(goneitemr y an nn cn L R G (B)).fact k v W2:=by
 match k,hk,hne,hkill,hfact with
 | 0,_,_,_,hq=>exact hq
 | 1,_,_,_,hq=>exact hq
 | 2,_,_,_,⟨a1,n1,c1,k1,m1,e1,hv,q_0,q_1⟩=>exact ⟨a1,n1,c1,k1,m1,e1,hv,q_0.touched ht (by omega),q_1⟩
 | 3,_,_,_,hq=>exact hq
 | 4,_,_,_,hq=>exact hq
 | 5,_,_,_,⟨a2,n2,c2,k2,m2,e2,hv,q_0,q_1⟩=>exact ⟨a2,n2,c2,k2,m2,e2,hv,q_0.touched ht (by omega),q_1⟩
 | 6,_,_,_,hq=>exact hq
 | 7,_,_,_,hq=>exact hq
 | 8,_,_,_,⟨a3,n3,c3,k3,m3,e3,hv,q_0,q_1⟩=>exact ⟨a3,n3,c3,k3,m3,e3,hv,q_0.touched ht (by omega),q_1⟩
 | 9,_,_,_,hq=>exact hq
 | 10,_,_,_,hq=>exact hq
 | 11,_,_,_,⟨a4,n4,c4,k4,m4,e4,hv,q_0,q_1⟩=>exact ⟨a4,n4,c4,k4,m4,e4,hv,q_0.touched ht (by omega),q_1⟩
 | 12,_,_,_,⟨gr,hv,q_0,q_1⟩=>exact ⟨gr,hv,q_0.touched ht (by omega),q_1⟩
 | 13,_,_,_,⟨a0,n0,c0,k0,m0,e0,hv,q_0,q_1⟩=>exact ⟨a0,n0,c0,k0,m0,e0,hv,q_0.touched ht (by omega),q_1⟩
 | 14,_,hne,_,_=>exact absurd rfl hne
 | 15,_,_,_,q_0=>exact box_box q_0 hg (by decide) ht
 | 16,_,_,hkill,_=>exact absurd (List.Mem.head _) hkill
 | k+17,hk,_,_,_=>omega
theorem goneItem_R (y:GP)(an:Option Addr)(nn cn:Nat)(L:Nat)(w:World)(hLw:L≤w.heap.size)(h:Pts w an nn y.parts)(hw:W64 y.ser∧W64 y.tm∧W64 y.rs)(ha:∀ k,k<nn→W64 (y.parts.getD k default).attr)(hn:nn≤1000) :
  Calls Tryz.prog 57 #[.agg #[.slice an nn cn,.int .i64 y.ser,.int .i64 y.tm,.int .i64 y.rs]] w fun e w'=>ItR L w.heap.size 5 (goI y) e w'∧Below w.heap.size w w':=by
 obtain ⟨w1,hw1⟩:∃ w1,w1=(w.alloc (.cells #[.slice an nn cn,.int .i64 y.ser,.int .i64 y.tm,.int .i64 y.rs] 65)).alloc (.cells #[.int .i64 0,.int .i64 0,.bool false,.slice none 0 0,.slice none 0 0] 81):=⟨_,rfl⟩
 have hbb:Below w.heap.size w w1:=by rw [hw1]; exact ((Below.refl _ _).alloc (Nat.le_refl _) _).alloc (by simp) _
 have HB1:Hid (_∧_):=two_blocks w (.cells #[.slice an nn cn,.int .i64 y.ser,.int .i64 y.tm,.int .i64 y.rs] 65) (.cells #[.int .i64 0,.int .i64 0,.bool false,.slice none 0 0,.slice none 0 0] 81)
 rw [← hw1] at HB1
 have hsz:w1.heap.size=w.heap.size+2:=by rw [hw1]; simp
 have HGB:L≤w.heap.size∧w.heap.size+1<w1.heap.size:=⟨hLw,by omega⟩
 have HLB:∀ W,Below w.heap.size w1 W→L≤W.heap.size:=fun W hW=>by have:=hW.size; omega
 have HBB:w.heap.size≤w1.heap.size:=hbb.size
 have HW:Hid (_=_):=hw1
 clear hw1
 go_enter Tryz.func57,Tryz.ntmps57
 go_upto_region 1 with fail
 rw [← HW.out]
 clear HW
 refine wp_region_ri (goneitemr y an nn cn L w1.heap.size w.heap.size (w.heap.size)) [3,4,5,6,7,8,9,10,11,12,13,14,15,16] (w.heap.size) (fun a0=>a0.tmps.size=17∧aT a0 1=.pointer (some ⟨w.heap.size,0,none⟩)∧aT a0 2=.pointer (some ⟨(w.heap.size+1),0,none⟩)) (by kernel_rfl) rfl (by kernel_rfl) rfl ⟨rfl,rfl,rfl⟩ (goneitemr_stb y an nn cn L w1.heap.size w.heap.size (w.heap.size)) ?_ ?_ ?_
 ·intro k hk hk2
  match k,hk,hk2 with
  | 15,_,_=>exact HB1.out.1
  | 16,_,_=>exact HB1.out.2
  | 0,hk,_=>exact absurd hk (by show ¬ (15≤0); omega)
  | 1,hk,_=>exact absurd hk (by show ¬ (15≤1); omega)
  | 2,hk,_=>exact absurd hk (by show ¬ (15≤2); omega)
  | 3,hk,_=>exact absurd hk (by show ¬ (15≤3); omega)
  | 4,hk,_=>exact absurd hk (by show ¬ (15≤4); omega)
  | 5,hk,_=>exact absurd hk (by show ¬ (15≤5); omega)
  | 6,hk,_=>exact absurd hk (by show ¬ (15≤6); omega)
  | 7,hk,_=>exact absurd hk (by show ¬ (15≤7); omega)
  | 8,hk,_=>exact absurd hk (by show ¬ (15≤8); omega)
  | 9,hk,_=>exact absurd hk (by show ¬ (15≤9); omega)
  | 10,hk,_=>exact absurd hk (by show ¬ (15≤10); omega)
  | 11,hk,_=>exact absurd hk (by show ¬ (15≤11); omega)
  | 12,hk,_=>exact absurd hk (by show ¬ (15≤12); omega)
  | 13,hk,_=>exact absurd hk (by show ¬ (15≤13); omega)
  | 14,hk,_=>exact absurd hk (by show ¬ (15≤14); omega)
  | k+17,_,hk2=>exact absurd hk2 (by show ¬ (k+17<17); omega)
 ·rintro a0 ⟨hz,g1,g2⟩
  refine StepsRI.cons ?_ (StepsRI.cons ?_ (StepsRI.cons ?_ (StepsRI.cons ?_ (StepsRI.cons ?_ (StepsRI.cons ?_ (StepsRI.cons ?_ (StepsRI.cons ?_ (StepsRI.cons ?_ (StepsRI.cons ?_ (StepsRI.cons ?_ (StepsRI.cons ?_ (StepsRI.cons ?_ (StepsRI.cons ?_ (StepsRI.cons ?_ (StepsRI.nil)))))))))))))))
  ·intro lQ b W hI hUN hED KQ hKQ
   exact opw_field 65 1 0 rfl _ ((hI.fr.same 1 (by decide)).trans g1) _ (by kernel_rfl) (hKQ.out _ _ (hI.put 0 3 rfl rfl (by rw [hz]; decide) rfl hUN rfl HBB (goneitemr_stb y an nn cn L w1.heap.size w.heap.size (w.heap.size)) (Below.refl _ _) rfl))
  ·intro lQ b W hI hUN hED KQ hKQ
   have f:aT b 3=.pointer (some ⟨w.heap.size,0,none⟩):=hI.got 0 (of_decide_eq_true rfl) (edge hED 0 (by kernel_rfl)) rfl
   have hg:=(hI.vot 15 (of_decide_eq_true rfl) (of_decide_eq_true rfl) rfl)
   have hc0:W.cell? ⟨w.heap.size,0,none⟩=some (.slice an nn cn):=(cell_of_row _ _ 0 _ _ (0,0) hg).trans rfl
   exact opw_load1 36 3 rfl _ f _ (by simp [Instr.loadAt,go_sem,hc0]) (hKQ.out _ _ (hI.put 1 4 rfl rfl (by rw [hz]; decide) rfl hUN rfl HBB (goneitemr_stb y an nn cn L w1.heap.size w.heap.size (w.heap.size)) (Below.refl _ _) rfl))
  ·intro lQ b W hI hUN hED KQ hKQ
   have f0:aT b 4=.agg #[.slice an nn cn]:=hI.got 1 (of_decide_eq_true rfl) (edge hED 1 (by kernel_rfl)) rfl
   refine opw_call 53 #[.tmp 4] _ _ _ rfl Tryz.func53 (by kernel_rfl) rfl #[.agg #[.slice an nn cn]] (by simp [ev,f0]) ?_
   refine (nameItem_R an nn cn y.parts L W (HLB W hI.bel) (h.kept (hbb.trans hI.bel)) ha hn).mono ?_
   rintro r W2 ⟨⟨a1,n1,c1,k1,m1,e1,rfl,hzI⟩,hb⟩
   exact ⟨_,rfl,hKQ.out _ _ (hI.put 2 5 rfl rfl (by rw [hz]; decide) rfl hUN rfl HBB (goneitemr_stb y an nn cn L w1.heap.size w.heap.size (w.heap.size)) hb ⟨a1,n1,c1,k1,m1,e1,rfl,((hzI.mono hI.bel.size).le (by decide)),HGB⟩)⟩
  ·intro lQ b W hI hUN hED KQ hKQ
   exact opw_field 65 1 1 rfl _ ((hI.fr.same 1 (by decide)).trans g1) _ (by kernel_rfl) (hKQ.out _ _ (hI.put 3 6 rfl rfl (by rw [hz]; decide) rfl hUN rfl HBB (goneitemr_stb y an nn cn L w1.heap.size w.heap.size (w.heap.size)) (Below.refl _ _) rfl))
  ·intro lQ b W hI hUN hED KQ hKQ
   have f:=hI.got 3 (of_decide_eq_true rfl) (edge hED 3 (by kernel_rfl)) rfl
   have hg:=(hI.vot 15 (of_decide_eq_true rfl) (of_decide_eq_true rfl) rfl)
   have hc:W.cell? ⟨w.heap.size,1,none⟩=some (.int .i64 y.ser):=(cell_of_row _ _ 1 _ _ (0,0) hg).trans rfl
   exact opw_load1 2 6 rfl _ f _ (by simp [Instr.loadAt,go_sem,hc]) (hKQ.out _ _ (hI.put 4 7 rfl rfl (by rw [hz]; decide) rfl hUN rfl HBB (goneitemr_stb y an nn cn L w1.heap.size w.heap.size (w.heap.size)) (Below.refl _ _) rfl))
  ·intro lQ b W hI hUN hED KQ hKQ
   have f0:aT b 7=.int .i64 y.ser:=hI.got 4 (of_decide_eq_true rfl) (edge hED 4 (by kernel_rfl)) rfl
   refine opw_call 54 #[.tmp 7] _ _ _ rfl Tryz.func54 (by kernel_rfl) rfl #[.int .i64 y.ser] (by simp [ev,f0]) ?_
   refine (numberItem_R y.ser L W hw.1).mono ?_
   rintro r W2 ⟨⟨a2,n2,c2,k2,m2,e2,rfl,hzI⟩,hb⟩
   exact ⟨_,rfl,hKQ.out _ _ (hI.put 5 8 rfl rfl (by rw [hz]; decide) rfl hUN rfl HBB (goneitemr_stb y an nn cn L w1.heap.size w.heap.size (w.heap.size)) hb ⟨a2,n2,c2,k2,m2,e2,rfl,((hzI.mono hI.bel.size).le (by decide)),HGB⟩)⟩
  ·intro lQ b W hI hUN hED KQ hKQ
   exact opw_field 65 1 2 rfl _ ((hI.fr.same 1 (by decide)).trans g1) _ (by kernel_rfl) (hKQ.out _ _ (hI.put 6 9 rfl rfl (by rw [hz]; decide) rfl hUN rfl HBB (goneitemr_stb y an nn cn L w1.heap.size w.heap.size (w.heap.size)) (Below.refl _ _) rfl))
  ·intro lQ b W hI hUN hED KQ hKQ
   have f:=hI.got 6 (of_decide_eq_true rfl) (edge hED 6 (by kernel_rfl)) rfl
   have hg:=(hI.vot 15 (of_decide_eq_true rfl) (of_decide_eq_true rfl) rfl)
   have hc:W.cell? ⟨w.heap.size,2,none⟩=some (.int .i64 y.tm):=(cell_of_row _ _ 2 _ _ (0,0) hg).trans rfl
   exact opw_load1 2 9 rfl _ f _ (by simp [Instr.loadAt,go_sem,hc]) (hKQ.out _ _ (hI.put 7 10 rfl rfl (by rw [hz]; decide) rfl hUN rfl HBB (goneitemr_stb y an nn cn L w1.heap.size w.heap.size (w.heap.size)) (Below.refl _ _) rfl))
  ·intro lQ b W hI hUN hED KQ hKQ
   have f0:aT b 10=.int .i64 y.tm:=hI.got 7 (of_decide_eq_true rfl) (edge hED 7 (by kernel_rfl)) rfl
   refine opw_call 54 #[.tmp 10] _ _ _ rfl Tryz.func54 (by kernel_rfl) rfl #[.int .i64 y.tm] (by simp [ev,f0]) ?_
   refine (numberItem_R y.tm L W hw.2.1).mono ?_
   rintro r W2 ⟨⟨a3,n3,c3,k3,m3,e3,rfl,hzI⟩,hb⟩
   exact ⟨_,rfl,hKQ.out _ _ (hI.put 8 11 rfl rfl (by rw [hz]; decide) rfl hUN rfl HBB (goneitemr_stb y an nn cn L w1.heap.size w.heap.size (w.heap.size)) hb ⟨a3,n3,c3,k3,m3,e3,rfl,((hzI.mono hI.bel.size).le (by decide)),HGB⟩)⟩
  ·intro lQ b W hI hUN hED KQ hKQ
   exact opw_field 65 1 3 rfl _ ((hI.fr.same 1 (by decide)).trans g1) _ (by kernel_rfl) (hKQ.out _ _ (hI.put 9 12 rfl rfl (by rw [hz]; decide) rfl hUN rfl HBB (goneitemr_stb y an nn cn L w1.heap.size w.heap.size (w.heap.size)) (Below.refl _ _) rfl))
  ·intro lQ b W hI hUN hED KQ hKQ
   have f:=hI.got 9 (of_decide_eq_true rfl) (edge hED 9 (by kernel_rfl)) rfl
   have hg:=(hI.vot 15 (of_decide_eq_true rfl) (of_decide_eq_true rfl) rfl)
   have hc:W.cell? ⟨w.heap.size,3,none⟩=some (.int .i64 y.rs):=(cell_of_row _ _ 3 _ _ (0,0) hg).trans rfl
   exact opw_load1 2 12 rfl _ f _ (by simp [Instr.loadAt,go_sem,hc]) (hKQ.out _ _ (hI.put 10 13 rfl rfl (by rw [hz]; decide) rfl hUN rfl HBB (goneitemr_stb y an nn cn L w1.heap.size w.heap.size (w.heap.size)) (Below.refl _ _) rfl))
  ·intro lQ b W hI hUN hED KQ hKQ
   have f0:aT b 13=.int .i64 y.rs:=hI.got 10 (of_decide_eq_true rfl) (edge hED 10 (by kernel_rfl)) rfl
   refine opw_call 54 #[.tmp 13] _ _ _ rfl Tryz.func54 (by kernel_rfl) rfl #[.int .i64 y.rs] (by simp [ev,f0]) ?_
   refine (numberItem_R y.rs L W hw.2.2).mono ?_
   rintro r W2 ⟨⟨a4,n4,c4,k4,m4,e4,rfl,hzI⟩,hb⟩
   exact ⟨_,rfl,hKQ.out _ _ (hI.put 11 14 rfl rfl (by rw [hz]; decide) rfl hUN rfl HBB (goneitemr_stb y an nn cn L w1.heap.size w.heap.size (w.heap.size)) hb ⟨a4,n4,c4,k4,m4,e4,rfl,((hzI.mono hI.bel.size).le (by decide)),HGB⟩)⟩
  ·intro lQ b W hI hUN hED KQ hKQ
   obtain ⟨a1,n1,c1,k1,m1,e1,f1,o1,_⟩:=hI.got 2 (of_decide_eq_true rfl) (edge hED 2 (by kernel_rfl)) rfl
   replace f1:aT b 5=.agg #[.int .i64 (namI y.parts).cls,.int .i64 (namI y.parts).tag,.bool (namI y.parts).cons,.slice a1 n1 c1,.slice k1 m1 e1]:=f1
   obtain ⟨a2,n2,c2,k2,m2,e2,f2,o2,_⟩:=hI.got 5 (of_decide_eq_true rfl) (edge hED 5 (by kernel_rfl)) rfl
   replace f2:aT b 8=.agg #[.int .i64 (numI y.ser).cls,.int .i64 (numI y.ser).tag,.bool (numI y.ser).cons,.slice a2 n2 c2,.slice k2 m2 e2]:=f2
   obtain ⟨a3,n3,c3,k3,m3,e3,f3,o3,_⟩:=hI.got 8 (of_decide_eq_true rfl) (edge hED 8 (by kernel_rfl)) rfl
   replace f3:aT b 11=.agg #[.int .i64 (numI y.tm).cls,.int .i64 (numI y.tm).tag,.bool (numI y.tm).cons,.slice a3 n3 c3,.slice k3 m3 e3]:=f3
   obtain ⟨a4,n4,c4,k4,m4,e4,f4,o4,_⟩:=hI.got 11 (of_decide_eq_true rfl) (edge hED 11 (by kernel_rfl)) rfl
   replace f4:aT b 14=.agg #[.int .i64 (numI y.rs).cls,.int .i64 (numI y.rs).tag,.bool (numI y.rs).cons,.slice a4 n4 c4,.slice k4 m4 e4]:=f4
   refine opw_buildSliceT _ 4 _ rfl #[(0,.agg #[.int .i64 (namI y.parts).cls,.int .i64 (namI y.parts).tag,.bool (namI y.parts).cons,.slice a1 n1 c1,.slice k1 m1 e1]),(1,.agg #[.int .i64 (numI y.ser).cls,.int .i64 (numI y.ser).tag,.bool (numI y.ser).cons,.slice a2 n2 c2,.slice k2 m2 e2]),(2,.agg #[.int .i64 (numI y.tm).cls,.int .i64 (numI y.tm).tag,.bool (numI y.tm).cons,.slice a3 n3 c3,.slice k3 m3 e3]),(3,.agg #[.int .i64 (numI y.rs).cls,.int .i64 (numI y.rs).tag,.bool (numI y.rs).cons,.slice a4 n4 c4,.slice k4 m4 e4])] (by simp [ev,f1,f2,f3,f4]) (.slice (some ⟨W.heap.size,0,none⟩) 4 4) (W.alloc (.cells #[.int .i64 (namI y.parts).cls,.int .i64 (namI y.parts).tag,.bool (namI y.parts).cons,.slice a1 n1 c1,.slice k1 m1 e1,.int .i64 (numI y.ser).cls,.int .i64 (numI y.ser).tag,.bool (numI y.ser).cons,.slice a2 n2 c2,.slice k2 m2 e2,.int .i64 (numI y.tm).cls,.int .i64 (numI y.tm).tag,.bool (numI y.tm).cons,.slice a3 n3 c3,.slice k3 m3 e3,.int .i64 (numI y.rs).cls,.int .i64 (numI y.rs).tag,.bool (numI y.rs).cons,.slice a4 n4 c4,.slice k4 m4 e4] 81)) (by kernel_rfl) ?_
   exact hKQ.out _ _ (hI.put 12 15 rfl rfl (by rw [hz]; decide) rfl hUN rfl HBB (goneitemr_stb y an nn cn L w1.heap.size w.heap.size (w.heap.size)) ((Below.refl _ _).alloc (Nat.le_refl _) _) ⟨W.heap.size,rfl,kidZ_n4 hI.bel.size o1 o2 o3 o4,HGB⟩)
  ·intro lQ b W hI hUN hED KQ hKQ
   obtain ⟨gr,f0,o0,_⟩:=hI.got 12 (of_decide_eq_true rfl) (edge hED 12 (by kernel_rfl)) rfl
   replace f0:aT b 15=.slice (some ⟨gr,0,none⟩) 4 4:=f0
   refine opw_call 84 #[.tmp 15] _ _ _ rfl Tryz.func84 (by kernel_rfl) rfl #[.slice (some ⟨gr,0,none⟩) 4 4] (by simp [ev,f0]) ?_
   refine (structItem_R o0 rfl).mono ?_
   rintro r W2 ⟨⟨a0,n0,c0,k0,m0,e0,rfl,hzI⟩,hb⟩
   exact ⟨_,rfl,hKQ.out _ _ (hI.put 13 16 rfl rfl (by rw [hz]; decide) rfl hUN rfl HBB (goneitemr_stb y an nn cn L w1.heap.size w.heap.size (w.heap.size)) hb ⟨a0,n0,c0,k0,m0,e0,rfl,hzI,HGB⟩)⟩
  ·intro lQ b W hI hUN hED KQ hKQ
   have hgb:=(hI.vot1 16 14 (of_decide_eq_true rfl) (of_decide_eq_true rfl) hUN rfl)
   have fb:=((hI.fr.same 2 (by decide)).trans g2)
   have f:=hI.got 13 (of_decide_eq_true rfl) (edge hED 13 (by kernel_rfl)) rfl
   obtain ⟨a0,n0,c0,k0,m0,e0,f,o_0,o_1⟩:=f
   refine wp_store_row 81 _ _ rfl ((w.heap.size+1)) #[.int .i64 (goI y).cls,.int .i64 (goI y).tag,.bool (goI y).cons,.slice a0 n0 c0,.slice k0 m0 e0] fb f 81 _ hgb (by kernel_rfl) rfl (by simp [Value.oneCell']) ?_
   have ht:=setRow_touch W ((w.heap.size+1)) #[.int .i64 (goI y).cls,.int .i64 (goI y).tag,.bool (goI y).cons,.slice a0 n0 c0,.slice k0 m0 e0]
   exact hKQ.out _ _ (hI.store 14 (fun j hj=>by cases hj) (hI.bel.trans (ht.below (by first | exact HGE2 | omega) (Nat.le_trans HBB hI.bel.size))) (goneitemr_st14 y an nn cn L w1.heap.size w.heap.size (w.heap.size) hgb ht) ⟨a0,n0,c0,k0,m0,e0,(setRow_heap W ((w.heap.size+1)) _ _ _ _ hgb),o_0.touched ht (by omega),o_1⟩)
 ·intro b W hf hb F
  obtain ⟨a0,n0,c0,k0,m0,e0,hbx,hz,_⟩:=F 14 (of_decide_eq_true rfl) rfl
  rw [hf.eq]
  simp only [puts,Act.put,List.setIfInBounds_toArray,List.set_cons_zero,List.set_cons_succ]
  clear hf F
  generalize aT b=AT
  clear b
  go_wp2
  try simp only [Exit.inBlock,Exit.then]
  exact bodyPost_ret (results_it rfl _ (w.heap.size+1) rfl _ _ _ _ _ _ hbx) rfl ⟨⟨a0,n0,c0,k0,m0,e0,rfl,hz.mono hbb.size⟩,hbb.trans hb⟩
theorem Goi_next (xs:List GP)(k:Nat)(h:k<xs.length):(xs.take (k+1)).map goI=(xs.take k).map goI++[goI (xs.getD k default)]:=by
 rw [List.take_add_one,List.map_append]
 simp [h]
theorem eachGoi_R (a:Option Addr)(n c:Nat)(xs:List GP)(L:Nat)(w:World)(hLw:L≤w.heap.size)(h:Gns w a n xs)(hw:∀ k,k<n→GoW (xs.getD k default))(hn:n≤1000) :
  Calls Tryz.prog 89 #[.slice a n c,.func (Fn.func 57) #[] #[]] w fun e w'=>∃ ao co,e=.returned (.slice ao n co)∧OwnItZ 5 L w.heap.size w' ao n co (xs.map goI)∧Below w.heap.size w w':=by
 obtain ⟨i0,hi,hz0,hz1,hz2⟩:=info_parts Tryz.infoIt
 have H0:Hid (Gns w a n xs):=h
 have HPw:Hid (∀ k,k<n→GoW (xs.getD k default)):=hw
 have HLX:Hid (xs.length=n):=h.len
 clear h hw
 go_enter Tryz.func89,Tryz.ntmps89
 go_wp2
 go_loopw [5,10] (fun o i wr=>∃ (k:Nat) (ao:Option Addr) (cc:Nat),k≤n∧i=.int .i64 k∧o=.slice ao k cc∧Hid (OwnItZ 5 L w.heap.size wr ao k cc ((xs.take k).map goI))∧Below w.heap.size w wr) (fun _ i _=>n - (intOf i).toNat)
 case atStart=>exact ⟨0,none,0,Nat.zero_le _,rfl,rfl,ownItZ_none _ _ _ _,Below.refl _ _⟩
 case round =>
  obtain ⟨k,ao,cc,hk,rfl,rfl,HO,hbr⟩:=hrel
  have hws:=hbr.size
  by_cases hlt:k<n
  ·obtain ⟨b,off,an,nn,cn,rfl,hlb,hc,hp⟩:=H0.out.get k hlt
   obtain ⟨y,hy⟩:∃ y,y=xs.getD k default:=⟨_,rfl⟩
   rw [← hy] at hc hp
   have HYW:Hid (GoW y):=by show GoW _; rw [hy]; exact HPw.out k hlt
   have HPP:Hid (Pts w an nn y.parts):=hp
   have HNN:Hid (y.parts.length=nn):=hp.len
   obtain ⟨z,hz⟩:∃ z,z=goI y:=⟨_,rfl⟩
   have HXK:Hid ((xs.take (k+1)).map goI=(xs.take k).map goI++[z]):=by show _=_; rw [hz,hy]; exact Goi_next xs k (by rw [HLX.out]; exact hlt)
   obtain ⟨c0,c1,c2,c3⟩:=hc.of (w':=wr) (fun i=>hbr.cell (p:=⟨b,i,none⟩) hlb)
   clear hc hp
   have hkni:(k:Int)<(n:Int):=by omega
   have hbw:b<wr.heap.size:=by omega
   have hbz:Below wr.heap.size wr (wr.alloc (.cells #[.slice an nn cn,.int .i64 y.ser,.int .i64 y.tm,.int .i64 y.rs] 65)):=(Below.refl _ _).alloc (Nat.le_refl _) _
   have hbz2:Below w.heap.size w (wr.alloc (.cells #[.slice an nn cn,.int .i64 y.ser,.int .i64 y.tm,.int .i64 y.rs] 65)):=hbr.trans (hbz.mono hws)
   have HCON:Hid (Calls Tryz.prog 57 #[.agg #[.slice an nn cn,.int .i64 y.ser,.int .i64 y.tm,.int .i64 y.rs]] (wr.alloc (.cells #[.slice an nn cn,.int .i64 y.ser,.int .i64 y.tm,.int .i64 y.rs] 65)) fun e w'=>ItR L (wr.alloc (.cells #[.slice an nn cn,.int .i64 y.ser,.int .i64 y.tm,.int .i64 y.rs] 65)).heap.size 5 z e w'∧Below (wr.alloc (.cells #[.slice an nn cn,.int .i64 y.ser,.int .i64 y.tm,.int .i64 y.rs] 65)).heap.size (wr.alloc (.cells #[.slice an nn cn,.int .i64 y.ser,.int .i64 y.tm,.int .i64 y.rs] 65)) w'):=by rw [hz]; exact goneItem_R y an nn cn L _ (by have:=hbz.size; omega) (HPP.out.kept hbz2) HYW.out.1 (fun j hj=>HYW.out.2.1 j (by rw [HNN.out]; exact hj)) (by rw [← HNN.out]; exact HYW.out.2.2)
   clear hy hz
   go_wp2_with fail
   refine HCON.out.mono ?_
   rintro e w2 ⟨⟨ab,nb,cb,ak,nk,ck,rfl,hit⟩,hb2⟩
   have hb2r:Below wr.heap.size wr w2:=keepT hbz hb2
   have B2:Below w.heap.size w w2:=hbr.trans (hb2r.mono hws)
   have hal:Below w2.heap.size w2 (w2.alloc (.cells #[.int .i64 z.cls,.int .i64 z.tag,.bool z.cons,.slice ab nb cb,.slice ak nk ck] 81)):=(Below.refl _ _).alloc (Nat.le_refl _) _
   have B6:Below w.heap.size w (w2.alloc (.cells #[.int .i64 z.cls,.int .i64 z.tag,.bool z.cons,.slice ab nb cb,.slice ak nk ck] 81)):=B2.trans (hal.mono B2.size)
   have hs6:(w2.alloc (.cells #[.int .i64 z.cls,.int .i64 z.tag,.bool z.cons,.slice ab nb cb,.slice ak nk ck] 81)).heap.size=w2.heap.size+1:=by simp
   have hs2:=hb2r.size
   have hsz1:=hbz.size
   have HQ3:Hid (OwnItZ 5 L w.heap.size (w2.alloc (.cells #[.int .i64 z.cls,.int .i64 z.tag,.bool z.cons,.slice ab nb cb,.slice ak nk ck] 81)) ao k cc ((xs.take k).map goI)):=(HO.out.kept hb2r).kept hal
   obtain ⟨vs,hrow⟩:=HQ3.out.row
   have HROW:Hid (_):=hrow
   have hown:∀ b,(Value.slice ao k cc).ownBlock=some b→w.heap.size≤b∧b<wr.heap.size:=fun b hb=>by obtain ⟨vs0,hv0⟩:=HO.out.row; exact ⟨HO.out.2 b hb,(hv0.lt b hb).2⟩
   have HAPP:Hid (∀ g7 c7 w7,w7.ownsRow 0 81 5 (.slice (some ⟨g7,0,none⟩) (k+1) c7) (k+1) (vs++itc z ab nb cb ak nk ck)→(w2.alloc (.cells #[.int .i64 z.cls,.int .i64 z.tag,.bool z.cons,.slice ab nb cb,.slice ak nk ck] 81)).grownBy w7 (Value.slice ao k cc).ownBlock→((Value.slice ao k cc).ownBlock=some g7∨g7=w2.heap.size+1)→OwnItZ 5 L w.heap.size w7 (some ⟨g7,0,none⟩) (k+1) c7 ((xs.take (k+1)).map goI)∧Below w.heap.size w w7):=by
    intro g7 c7 w7 hv7 hg7 hl7
    have hit2:=hit.kept hal
    rw [HXK.out]
    refine ⟨HQ3.out.appended hit2.it (fun b hb=>⟨by have:=hb.1; omega,hb.2,fun e=>by have:=hown b e; have:=hb.1; omega⟩) (by omega) HROW.out hv7 hg7 (by rw [hs6]; exact hl7) B6.size,B6.grown hg7 (by have:=B6.size; omega) (fun kx hx=>HQ3.out.2 kx hx)⟩
   clear c0 c1 c2 c3 hrow HO hb2 hb2r B2 hal hbz hbz2 hit HCON
   go_wp2_with (at_builtin; refine wpList_append_lies _ rfl (.tmp 14) (.tmp 18) 79 rfl 0 81 i0 _ 5 72 Tryz.underlying79 hi hz0 hz1 hz2 rfl (by decide) _ k vs rfl HROW.out ⟨w2.heap.size,0,none⟩ 1 1 [.int .i64 z.cls,.int .i64 z.tag,.bool z.cons,.slice ab nb cb,.slice ak nk ck] rfl rfl (World.news_of_block (heap_alloc_new w2 (.cells #[.int .i64 z.cls,.int .i64 z.tag,.bool z.cons,.slice ab nb cb,.slice ak nk ck] 81))) (by intro u hu; simp only [List.mem_cons,List.not_mem_nil,or_false] at hu; rcases hu with rfl | rfl | rfl | rfl | rfl <;> rfl) (by decide) (by unfold maxLen; omega) (by omega) (Nat.zero_le _) (w2.heap.size+1) (by simp) ?_; intro g7 c7 w7 hv7 hg7 hl7 hlt7; have HN7:=HAPP.out g7 c7 w7 hv7 hg7 hl7; have HO7:Hid (_):=HN7.1; have B7:=HN7.2; clear hv7 hg7 hl7 hlt7 HN7 HAPP HQ3 HROW)
   go_roundw
   case rel=>exact ⟨k+1,_,c7,by omega,by go_num,rfl,HO7,B7⟩
   case measure=>simp [intOf]; omega
  ·obtain rfl:k=n:=by omega
   have HX:Hid (xs.take k=xs):=by show _=_; rw [List.take_of_length_le (by rw [HLX.out]; exact Nat.le_refl _)]
   go_wp2
   go_ret
   refine ⟨ao,cc,rfl,?_,hbr⟩
   have:=HO.out
   rw [HX.out] at this
   exact this
theorem listItemGoi_R (a:Option Addr)(n c:Nat)(xs:List GP)(L:Nat)(w:World)(hLw:L≤w.heap.size)(h:Gns w a n xs)(hw:∀ k,k<n→GoW (xs.getD k default))(hn:n≤1000) :
  Calls Tryz.prog 56 #[.slice a n c,.func (Fn.func 57) #[] #[]] w fun e w'=>ItR L w.heap.size 6 (lstI (xs.map goI)) e w'∧Below w.heap.size w w':=by
 have hbx:=box5_below w
 have hsz:=box5_size w
 have HB5:Hid (_=_):=box5_new w
 have HE:Hid (_):=eachGoi_R a n c xs L (box5 w) (by omega) (h.kept hbx) hw hn
 clear h hw
 go_enter Tryz.func56,Tryz.ntmps56
 go_wp2_with fail
 refine Calls.mono HE.out ?_
 rintro e w2 ⟨ao,co,rfl,ho,hb2⟩
 have HK:Hid (KidsI 6 (fun b=>(b<L∨(box5 w).heap.size≤b)∧b<w2.heap.size) w2 ao n (xs.map goI)):=ho.kids
 have h5:=below_kept HB5.out hb2
 obtain ⟨_,q0,q1,q2,q3,q4,q5,q6,q7,q8,q9⟩:=Box5.of h5
 have H5:Hid (_=_):=h5
 have B2:Below w.heap.size w w2:=keepT hbx hb2
 have hs2:=hb2.size
 clear ho h5 hb2 HE
 go_wp2_with fail
 try simp only [Exit.inBlock,Exit.then]
 have T:=put5_touch w2 w.heap.size (.int .i64 0) (.int .i64 17) (.bool true) (.slice none 0 0) (.slice ao n co)
 have hZ:ListZ L (w.heap.size+1) 6 w2 ao n (xs.map goI):=⟨HK.out.mono (fun b hb=>⟨by have:=hb.1; omega,hb.2⟩)⟩
 exact bodyPost_ret (results_it rfl _ w.heap.size rfl _ _ _ _ _ _ (put5_heap H5.out _ _ _ _ _)) rfl ⟨⟨_,_,_,_,_,_,rfl,(hZ.itz (co:=co)).put hLw (by omega) _ _ _ _ _⟩,B2.trans (T.below (Nat.le_refl _) B2.size)⟩
end Go.Proofs.YtkdandggklpppaaGreatDoor
