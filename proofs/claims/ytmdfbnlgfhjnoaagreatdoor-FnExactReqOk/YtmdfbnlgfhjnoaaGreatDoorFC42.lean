import Derived.Test.YtmdfbnlgfhjnoaaGreatDoorFC37
set_option maxRecDepth 10000
set_option maxHeartbeats 8000000
set_option linter.unusedVariables false
namespace Go.Proofs.YtmdfbnlgfhjnoaaGreatDoor
open Go.RowKit Go.Sort
def pubitemr (y:Int × Int × Int)(L R G B:Nat):RSpec where
 m:=12
 n:=14
 slots:=[3,4,5,6,7,8,9,10,11,12,13,100011,100012,100013]
 kills:=[[],[],[],[],[],[],[],[],[],[],[],[],[],[11]]
 pres:=[[],[],[],[],[],[],[],[],[],[],[],[],[],[]]
 fact:=fun k v w=>match k with
  | 0=>v=.pointer (some ⟨G,0,none⟩)
  | 1=>v=.int .i64 y.1
  | 2=>∃ a1 n1 c1 k1 m1 e1,v=.agg #[.int .i64 (numI y.1).cls,.int .i64 (numI y.1).tag,.bool (numI y.1).cons,.slice a1 n1 c1,.slice k1 m1 e1]∧ItZ L R 1 w (numI y.1) a1 n1 c1 k1 m1 e1∧L≤G∧G+1<R
  | 3=>v=.pointer (some ⟨G,1,none⟩)
  | 4=>v=.int .u64 y.2.1
  | 5=>∃ a2 n2 c2 k2 m2 e2,v=.agg #[.int .i64 (bytI (eightI y.2.1)).cls,.int .i64 (bytI (eightI y.2.1)).tag,.bool (bytI (eightI y.2.1)).cons,.slice a2 n2 c2,.slice k2 m2 e2]∧ItZ L R 1 w (bytI (eightI y.2.1)) a2 n2 c2 k2 m2 e2∧L≤G∧G+1<R
  | 6=>v=.pointer (some ⟨G,2,none⟩)
  | 7=>v=.int .i64 y.2.2
  | 8=>∃ a3 n3 c3 k3 m3 e3,v=.agg #[.int .i64 (numI y.2.2).cls,.int .i64 (numI y.2.2).tag,.bool (numI y.2.2).cons,.slice a3 n3 c3,.slice k3 m3 e3]∧ItZ L R 1 w (numI y.2.2) a3 n3 c3 k3 m3 e3∧L≤G∧G+1<R
  | 9=>∃ gr,v=.slice (some ⟨gr,0,none⟩) 3 3∧KidZ L R w gr 2 [numI y.1,bytI (eightI y.2.1),numI y.2.2]∧L≤G∧G+1<R
  | 10=>∃ a0 n0 c0 k0 m0 e0,v=.agg #[.int .i64 (kyI y).cls,.int .i64 (kyI y).tag,.bool (kyI y).cons,.slice a0 n0 c0,.slice k0 m0 e0]∧ItZ L R 2 w (kyI y) a0 n0 c0 k0 m0 e0∧L≤G∧G+1<R
  | 11=>∃ a0 n0 c0 k0 m0 e0,w.heap[(G+1)]? = some (.cells #[.int .i64 (kyI y).cls,.int .i64 (kyI y).tag,.bool (kyI y).cons,.slice a0 n0 c0,.slice k0 m0 e0] 75 (0,0))∧ItZ L R 2 w (kyI y) a0 n0 c0 k0 m0 e0∧L≤G∧G+1<R
  | 12=>w.heap[G]? = some (.cells #[.int .i64 y.1,.int .u64 y.2.1,.int .i64 y.2.2] 41 (0,0))
  | _=>w.heap[(G+1)]? = some (.cells #[.int .i64 0,.int .i64 0,.bool false,.slice none 0 0,.slice none 0 0] 75 (0,0))
theorem pubitemr_stb (y:Int × Int × Int)(L R G B:Nat)(k:Nat)(hk:k<14):StB ((pubitemr y L R G (B)).fact k):=by
 match k,hk with
 | 0,_=>exact fun _ _ _ h _=>h
 | 1,_=>exact fun _ _ _ h _=>h
 | 2,_=>exact fun _ _ _ ⟨a1,n1,c1,k1,m1,e1,hv,q_0,q_1⟩ hb=>⟨a1,n1,c1,k1,m1,e1,hv,q_0.kept hb,q_1⟩
 | 3,_=>exact fun _ _ _ h _=>h
 | 4,_=>exact fun _ _ _ h _=>h
 | 5,_=>exact fun _ _ _ ⟨a2,n2,c2,k2,m2,e2,hv,q_0,q_1⟩ hb=>⟨a2,n2,c2,k2,m2,e2,hv,q_0.kept hb,q_1⟩
 | 6,_=>exact fun _ _ _ h _=>h
 | 7,_=>exact fun _ _ _ h _=>h
 | 8,_=>exact fun _ _ _ ⟨a3,n3,c3,k3,m3,e3,hv,q_0,q_1⟩ hb=>⟨a3,n3,c3,k3,m3,e3,hv,q_0.kept hb,q_1⟩
 | 9,_=>exact fun _ _ _ ⟨gr,hv,q_0,q_1⟩ hb=>⟨gr,hv,q_0.kept hb,q_1⟩
 | 10,_=>exact fun _ _ _ ⟨a0,n0,c0,k0,m0,e0,hv,q_0,q_1⟩ hb=>⟨a0,n0,c0,k0,m0,e0,hv,q_0.kept hb,q_1⟩
 | 11,_=>exact fun _ _ _ ⟨a0,n0,c0,k0,m0,e0,q_0,q_1,q_2⟩ hb=>⟨a0,n0,c0,k0,m0,e0,below_kept q_0 hb,q_1.kept hb,q_2⟩
 | 12,_=>exact fun _ _ _ q_0 hb=>below_kept q_0 hb
 | 13,_=>exact fun _ _ _ q_0 hb=>below_kept q_0 hb
 | k+14,hk=>omega
theorem pubitemr_st11 (y:Int × Int × Int)(L R G B:Nat){W W2:World}{cs:Array Value}{fr:Nat × Nat}(hg:W.heap[(G+1)]? = some (.cells cs 75 fr))(ht:Touch ((G+1)) ((G+1)+1) W W2)(k:Nat)(hk:k<14)(hne:k≠11)(hkill:11∉(pubitemr y L R G (B)).kill k)(v:Value)(hfact:(pubitemr y L R G (B)).fact k v W):(pubitemr y L R G (B)).fact k v W2:=by
 match k,hk,hne,hkill,hfact with
 | 0,_,_,_,hq=>exact hq
 | 1,_,_,_,hq=>exact hq
 | 2,_,_,_,⟨a1,n1,c1,k1,m1,e1,hv,q_0,q_1⟩=>exact ⟨a1,n1,c1,k1,m1,e1,hv,q_0.touched ht (by omega),q_1⟩
 | 3,_,_,_,hq=>exact hq
 | 4,_,_,_,hq=>exact hq
 | 5,_,_,_,⟨a2,n2,c2,k2,m2,e2,hv,q_0,q_1⟩=>exact ⟨a2,n2,c2,k2,m2,e2,hv,q_0.touched ht (by omega),q_1⟩
 | 6,_,_,_,hq=>exact hq
 | 7,_,_,_,hq=>exact hq
 | 8,_,_,_,⟨a3,n3,c3,k3,m3,e3,hv,q_0,q_1⟩=>exact ⟨a3,n3,c3,k3,m3,e3,hv,q_0.touched ht (by omega),q_1⟩
 | 9,_,_,_,⟨gr,hv,q_0,q_1⟩=>exact ⟨gr,hv,q_0.touched ht (by omega),q_1⟩
 | 10,_,_,_,⟨a0,n0,c0,k0,m0,e0,hv,q_0,q_1⟩=>exact ⟨a0,n0,c0,k0,m0,e0,hv,q_0.touched ht (by omega),q_1⟩
 | 11,_,hne,_,_=>exact absurd rfl hne
 | 12,_,_,_,q_0=>exact box_box q_0 hg (by decide) ht
 | 13,_,_,hkill,_=>exact absurd (List.Mem.head _) hkill
 | k+14,hk,_,_,_=>omega
theorem pubItem_R (y:Int × Int × Int)(L:Nat)(w:World)(hLw:L≤w.heap.size)(h1:W64 y.1)(hu:U64 y.2.1)(h3:W64 y.2.2) :
  Calls Tryz.prog 103 #[.agg #[.int .i64 y.1,.int .u64 y.2.1,.int .i64 y.2.2]] w fun e w'=>ItR L w.heap.size 2 (kyI y) e w'∧Below w.heap.size w w':=by
 obtain ⟨w1,hw1⟩:∃ w1,w1=(w.alloc (.cells #[.int .i64 y.1,.int .u64 y.2.1,.int .i64 y.2.2] 41)).alloc (.cells #[.int .i64 0,.int .i64 0,.bool false,.slice none 0 0,.slice none 0 0] 75):=⟨_,rfl⟩
 have hbb:Below w.heap.size w w1:=by rw [hw1]; exact ((Below.refl _ _).alloc (Nat.le_refl _) _).alloc (by simp) _
 have HB1:Hid (_∧_):=two_blocks w (.cells #[.int .i64 y.1,.int .u64 y.2.1,.int .i64 y.2.2] 41) (.cells #[.int .i64 0,.int .i64 0,.bool false,.slice none 0 0,.slice none 0 0] 75)
 rw [← hw1] at HB1
 have hsz:w1.heap.size=w.heap.size+2:=by rw [hw1]; simp
 have HGB:L≤w.heap.size∧w.heap.size+1<w1.heap.size:=⟨hLw,by omega⟩
 have HLB:∀ W,Below w.heap.size w1 W→L≤W.heap.size:=fun W hW=>by have:=hW.size; omega
 have HBB:w.heap.size≤w1.heap.size:=hbb.size
 have HW:Hid (_=_):=hw1
 clear hw1
 go_enter Tryz.func103,Tryz.ntmps103
 go_upto_region 1 with fail
 rw [← HW.out]
 clear HW
 refine wp_region_ri (pubitemr y L w1.heap.size w.heap.size (w.heap.size)) [3,4,5,6,7,8,9,10,11,12,13] (w.heap.size) (fun a0=>a0.tmps.size=14∧aT a0 1=.pointer (some ⟨w.heap.size,0,none⟩)∧aT a0 2=.pointer (some ⟨(w.heap.size+1),0,none⟩)) (by kernel_rfl) rfl (by kernel_rfl) rfl ⟨rfl,rfl,rfl⟩ (pubitemr_stb y L w1.heap.size w.heap.size (w.heap.size)) ?_ ?_ ?_
 ·intro k hk hk2
  match k,hk,hk2 with
  | 12,_,_=>exact HB1.out.1
  | 13,_,_=>exact HB1.out.2
  | 0,hk,_=>exact absurd hk (by show ¬ (12≤0); omega)
  | 1,hk,_=>exact absurd hk (by show ¬ (12≤1); omega)
  | 2,hk,_=>exact absurd hk (by show ¬ (12≤2); omega)
  | 3,hk,_=>exact absurd hk (by show ¬ (12≤3); omega)
  | 4,hk,_=>exact absurd hk (by show ¬ (12≤4); omega)
  | 5,hk,_=>exact absurd hk (by show ¬ (12≤5); omega)
  | 6,hk,_=>exact absurd hk (by show ¬ (12≤6); omega)
  | 7,hk,_=>exact absurd hk (by show ¬ (12≤7); omega)
  | 8,hk,_=>exact absurd hk (by show ¬ (12≤8); omega)
  | 9,hk,_=>exact absurd hk (by show ¬ (12≤9); omega)
  | 10,hk,_=>exact absurd hk (by show ¬ (12≤10); omega)
  | 11,hk,_=>exact absurd hk (by show ¬ (12≤11); omega)
  | k+14,_,hk2=>exact absurd hk2 (by show ¬ (k+14<14); omega)
 ·rintro a0 ⟨hz,g1,g2⟩
  refine StepsRI.cons ?_ (StepsRI.cons ?_ (StepsRI.cons ?_ (StepsRI.cons ?_ (StepsRI.cons ?_ (StepsRI.cons ?_ (StepsRI.cons ?_ (StepsRI.cons ?_ (StepsRI.cons ?_ (StepsRI.cons ?_ (StepsRI.cons ?_ (StepsRI.cons ?_ (StepsRI.nil))))))))))))
  ·intro lQ b W hI hUN hED KQ hKQ
   exact opw_field 41 1 0 rfl _ ((hI.fr.same 1 (by decide)).trans g1) _ (by kernel_rfl) (hKQ.out _ _ (hI.put 0 3 rfl rfl (by rw [hz]; decide) rfl hUN rfl HBB (pubitemr_stb y L w1.heap.size w.heap.size (w.heap.size)) (Below.refl _ _) rfl))
  ·intro lQ b W hI hUN hED KQ hKQ
   have f:=hI.got 0 (of_decide_eq_true rfl) (edge hED 0 (by kernel_rfl)) rfl
   have hg:=(hI.vot 12 (of_decide_eq_true rfl) (of_decide_eq_true rfl) rfl)
   have hc:W.cell? ⟨w.heap.size,0,none⟩=some (.int .i64 y.1):=(cell_of_row _ _ 0 _ _ (0,0) hg).trans rfl
   exact opw_load1 2 3 rfl _ f _ (by simp [Instr.loadAt,go_sem,hc]) (hKQ.out _ _ (hI.put 1 4 rfl rfl (by rw [hz]; decide) rfl hUN rfl HBB (pubitemr_stb y L w1.heap.size w.heap.size (w.heap.size)) (Below.refl _ _) rfl))
  ·intro lQ b W hI hUN hED KQ hKQ
   have f0:aT b 4=.int .i64 y.1:=hI.got 1 (of_decide_eq_true rfl) (edge hED 1 (by kernel_rfl)) rfl
   refine opw_call 101 #[.tmp 4] _ _ _ rfl Tryz.func101 (by kernel_rfl) rfl #[.int .i64 y.1] (by simp [ev,f0]) ?_
   refine (numberItem_R y.1 L W h1).mono ?_
   rintro r W2 ⟨⟨a1,n1,c1,k1,m1,e1,rfl,hzI⟩,hb⟩
   exact ⟨_,rfl,hKQ.out _ _ (hI.put 2 5 rfl rfl (by rw [hz]; decide) rfl hUN rfl HBB (pubitemr_stb y L w1.heap.size w.heap.size (w.heap.size)) hb ⟨a1,n1,c1,k1,m1,e1,rfl,((hzI.mono hI.bel.size).le (by decide)),HGB⟩)⟩
  ·intro lQ b W hI hUN hED KQ hKQ
   exact opw_field 41 1 1 rfl _ ((hI.fr.same 1 (by decide)).trans g1) _ (by kernel_rfl) (hKQ.out _ _ (hI.put 3 6 rfl rfl (by rw [hz]; decide) rfl hUN rfl HBB (pubitemr_stb y L w1.heap.size w.heap.size (w.heap.size)) (Below.refl _ _) rfl))
  ·intro lQ b W hI hUN hED KQ hKQ
   have f:=hI.got 3 (of_decide_eq_true rfl) (edge hED 3 (by kernel_rfl)) rfl
   have hg:=(hI.vot 12 (of_decide_eq_true rfl) (of_decide_eq_true rfl) rfl)
   have hc:W.cell? ⟨w.heap.size,1,none⟩=some (.int .u64 y.2.1):=(cell_of_row _ _ 1 _ _ (0,0) hg).trans rfl
   exact opw_load1 25 6 rfl _ f _ (by simp [Instr.loadAt,go_sem,hc]) (hKQ.out _ _ (hI.put 4 7 rfl rfl (by rw [hz]; decide) rfl hUN rfl HBB (pubitemr_stb y L w1.heap.size w.heap.size (w.heap.size)) (Below.refl _ _) rfl))
  ·intro lQ b W hI hUN hED KQ hKQ
   have f0:aT b 7=.int .u64 y.2.1:=hI.got 4 (of_decide_eq_true rfl) (edge hED 4 (by kernel_rfl)) rfl
   refine opw_call 155 #[.tmp 7] _ _ _ rfl Tryz.func155 (by kernel_rfl) rfl #[.int .u64 y.2.1] (by simp [ev,f0]) ?_
   refine (digestItem_R y.2.1 L W hu).mono ?_
   rintro r W2 ⟨⟨a2,n2,c2,k2,m2,e2,rfl,hzI⟩,hb⟩
   exact ⟨_,rfl,hKQ.out _ _ (hI.put 5 8 rfl rfl (by rw [hz]; decide) rfl hUN rfl HBB (pubitemr_stb y L w1.heap.size w.heap.size (w.heap.size)) hb ⟨a2,n2,c2,k2,m2,e2,rfl,((hzI.mono hI.bel.size).le (by decide)),HGB⟩)⟩
  ·intro lQ b W hI hUN hED KQ hKQ
   exact opw_field 41 1 2 rfl _ ((hI.fr.same 1 (by decide)).trans g1) _ (by kernel_rfl) (hKQ.out _ _ (hI.put 6 9 rfl rfl (by rw [hz]; decide) rfl hUN rfl HBB (pubitemr_stb y L w1.heap.size w.heap.size (w.heap.size)) (Below.refl _ _) rfl))
  ·intro lQ b W hI hUN hED KQ hKQ
   have f:=hI.got 6 (of_decide_eq_true rfl) (edge hED 6 (by kernel_rfl)) rfl
   have hg:=(hI.vot 12 (of_decide_eq_true rfl) (of_decide_eq_true rfl) rfl)
   have hc:W.cell? ⟨w.heap.size,2,none⟩=some (.int .i64 y.2.2):=(cell_of_row _ _ 2 _ _ (0,0) hg).trans rfl
   exact opw_load1 2 9 rfl _ f _ (by simp [Instr.loadAt,go_sem,hc]) (hKQ.out _ _ (hI.put 7 10 rfl rfl (by rw [hz]; decide) rfl hUN rfl HBB (pubitemr_stb y L w1.heap.size w.heap.size (w.heap.size)) (Below.refl _ _) rfl))
  ·intro lQ b W hI hUN hED KQ hKQ
   have f0:aT b 10=.int .i64 y.2.2:=hI.got 7 (of_decide_eq_true rfl) (edge hED 7 (by kernel_rfl)) rfl
   refine opw_call 101 #[.tmp 10] _ _ _ rfl Tryz.func101 (by kernel_rfl) rfl #[.int .i64 y.2.2] (by simp [ev,f0]) ?_
   refine (numberItem_R y.2.2 L W h3).mono ?_
   rintro r W2 ⟨⟨a3,n3,c3,k3,m3,e3,rfl,hzI⟩,hb⟩
   exact ⟨_,rfl,hKQ.out _ _ (hI.put 8 11 rfl rfl (by rw [hz]; decide) rfl hUN rfl HBB (pubitemr_stb y L w1.heap.size w.heap.size (w.heap.size)) hb ⟨a3,n3,c3,k3,m3,e3,rfl,((hzI.mono hI.bel.size).le (by decide)),HGB⟩)⟩
  ·intro lQ b W hI hUN hED KQ hKQ
   obtain ⟨a1,n1,c1,k1,m1,e1,f1,o1,_⟩:=hI.got 2 (of_decide_eq_true rfl) (edge hED 2 (by kernel_rfl)) rfl
   replace f1:aT b 5=.agg #[.int .i64 (numI y.1).cls,.int .i64 (numI y.1).tag,.bool (numI y.1).cons,.slice a1 n1 c1,.slice k1 m1 e1]:=f1
   obtain ⟨a2,n2,c2,k2,m2,e2,f2,o2,_⟩:=hI.got 5 (of_decide_eq_true rfl) (edge hED 5 (by kernel_rfl)) rfl
   replace f2:aT b 8=.agg #[.int .i64 (bytI (eightI y.2.1)).cls,.int .i64 (bytI (eightI y.2.1)).tag,.bool (bytI (eightI y.2.1)).cons,.slice a2 n2 c2,.slice k2 m2 e2]:=f2
   obtain ⟨a3,n3,c3,k3,m3,e3,f3,o3,_⟩:=hI.got 8 (of_decide_eq_true rfl) (edge hED 8 (by kernel_rfl)) rfl
   replace f3:aT b 11=.agg #[.int .i64 (numI y.2.2).cls,.int .i64 (numI y.2.2).tag,.bool (numI y.2.2).cons,.slice a3 n3 c3,.slice k3 m3 e3]:=f3
   refine opw_buildSliceT _ 3 _ rfl #[(0,.agg #[.int .i64 (numI y.1).cls,.int .i64 (numI y.1).tag,.bool (numI y.1).cons,.slice a1 n1 c1,.slice k1 m1 e1]),(1,.agg #[.int .i64 (bytI (eightI y.2.1)).cls,.int .i64 (bytI (eightI y.2.1)).tag,.bool (bytI (eightI y.2.1)).cons,.slice a2 n2 c2,.slice k2 m2 e2]),(2,.agg #[.int .i64 (numI y.2.2).cls,.int .i64 (numI y.2.2).tag,.bool (numI y.2.2).cons,.slice a3 n3 c3,.slice k3 m3 e3])] (by simp [ev,f1,f2,f3]) (.slice (some ⟨W.heap.size,0,none⟩) 3 3) (W.alloc (.cells #[.int .i64 (numI y.1).cls,.int .i64 (numI y.1).tag,.bool (numI y.1).cons,.slice a1 n1 c1,.slice k1 m1 e1,.int .i64 (bytI (eightI y.2.1)).cls,.int .i64 (bytI (eightI y.2.1)).tag,.bool (bytI (eightI y.2.1)).cons,.slice a2 n2 c2,.slice k2 m2 e2,.int .i64 (numI y.2.2).cls,.int .i64 (numI y.2.2).tag,.bool (numI y.2.2).cons,.slice a3 n3 c3,.slice k3 m3 e3] 75)) (by kernel_rfl) ?_
   exact hKQ.out _ _ (hI.put 9 12 rfl rfl (by rw [hz]; decide) rfl hUN rfl HBB (pubitemr_stb y L w1.heap.size w.heap.size (w.heap.size)) ((Below.refl _ _).alloc (Nat.le_refl _) _) ⟨W.heap.size,rfl,kidZ_n3 hI.bel.size o1 o2 o3,HGB⟩)
  ·intro lQ b W hI hUN hED KQ hKQ
   obtain ⟨gr,f0,o0,_⟩:=hI.got 9 (of_decide_eq_true rfl) (edge hED 9 (by kernel_rfl)) rfl
   replace f0:aT b 12=.slice (some ⟨gr,0,none⟩) 3 3:=f0
   refine opw_call 152 #[.tmp 12] _ _ _ rfl Tryz.func152 (by kernel_rfl) rfl #[.slice (some ⟨gr,0,none⟩) 3 3] (by simp [ev,f0]) ?_
   refine (structItem_R o0 rfl).mono ?_
   rintro r W2 ⟨⟨a0,n0,c0,k0,m0,e0,rfl,hzI⟩,hb⟩
   exact ⟨_,rfl,hKQ.out _ _ (hI.put 10 13 rfl rfl (by rw [hz]; decide) rfl hUN rfl HBB (pubitemr_stb y L w1.heap.size w.heap.size (w.heap.size)) hb ⟨a0,n0,c0,k0,m0,e0,rfl,hzI,HGB⟩)⟩
  ·intro lQ b W hI hUN hED KQ hKQ
   have hgb:=(hI.vot1 13 11 (of_decide_eq_true rfl) (of_decide_eq_true rfl) hUN rfl)
   have fb:=((hI.fr.same 2 (by decide)).trans g2)
   have f:=hI.got 10 (of_decide_eq_true rfl) (edge hED 10 (by kernel_rfl)) rfl
   obtain ⟨a0,n0,c0,k0,m0,e0,f,o_0,o_1⟩:=f
   refine wp_store_row 75 _ _ rfl ((w.heap.size+1)) #[.int .i64 (kyI y).cls,.int .i64 (kyI y).tag,.bool (kyI y).cons,.slice a0 n0 c0,.slice k0 m0 e0] fb f 75 _ hgb (by kernel_rfl) rfl (by simp [Value.oneCell']) ?_
   have ht:=setRow_touch W ((w.heap.size+1)) #[.int .i64 (kyI y).cls,.int .i64 (kyI y).tag,.bool (kyI y).cons,.slice a0 n0 c0,.slice k0 m0 e0]
   exact hKQ.out _ _ (hI.store 11 (fun j hj=>by cases hj) (hI.bel.trans (ht.below (by first | exact HGE2 | omega) (Nat.le_trans HBB hI.bel.size))) (pubitemr_st11 y L w1.heap.size w.heap.size (w.heap.size) hgb ht) ⟨a0,n0,c0,k0,m0,e0,(setRow_heap W ((w.heap.size+1)) _ _ _ _ hgb),o_0.touched ht (by omega),o_1⟩)
 ·intro b W hf hb F
  obtain ⟨a0,n0,c0,k0,m0,e0,hbx,hz,_⟩:=F 11 (of_decide_eq_true rfl) rfl
  rw [hf.eq]
  simp only [puts,Act.put,List.setIfInBounds_toArray,List.set_cons_zero,List.set_cons_succ]
  clear hf F
  generalize aT b=AT
  clear b
  go_wp2
  try simp only [Exit.inBlock,Exit.then]
  exact bodyPost_ret (results_it rfl _ (w.heap.size+1) rfl _ _ _ _ _ _ hbx) rfl ⟨⟨a0,n0,c0,k0,m0,e0,rfl,hz.mono hbb.size⟩,hbb.trans hb⟩
end Go.Proofs.YtmdfbnlgfhjnoaaGreatDoor
