import Derived.Test.YtmdfbnlgfhjnoaaGreatDoorFB39
import Derived.Test.YtmdfbnlgfhjnoaaGreatDoorFB32
set_option maxRecDepth 10000
set_option maxHeartbeats 8000000
set_option linter.unusedVariables false
namespace Go.Proofs.YtmdfbnlgfhjnoaaGreatDoor
open Go.RowKit Go.Sort
def GeW (y:GE):Prop:=(W64 y.g.kind∧W64 y.g.addr∧W64 y.g.bits)∧(∀ j,j<y.parts.length→W64 (y.parts.getD j default).attr)∧y.parts.length≤1000
def genitemr (y:GE)(an:Option Addr)(nn cn:Nat)(L R G B:Nat):RSpec where
 m:=18
 n:=20
 slots:=[3,4,5,6,7,8,9,10,11,12,13,14,15,16,17,18,19,100017,100018,100019]
 kills:=[[],[],[],[],[],[],[],[],[],[],[],[],[],[],[],[],[],[],[],[17]]
 pres:=[[],[],[],[],[],[],[],[],[],[],[],[],[],[],[],[],[],[],[],[]]
 fact:=fun k v w=>match k with
  | 0=>v=.pointer (some ⟨G,0,none⟩)
  | 1=>v=.int .i64 y.g.kind
  | 2=>∃ a1 n1 c1 k1 m1 e1,v=.agg #[.int .i64 (numI y.g.kind).cls,.int .i64 (numI y.g.kind).tag,.bool (numI y.g.kind).cons,.slice a1 n1 c1,.slice k1 m1 e1]∧ItZ L R 4 w (numI y.g.kind) a1 n1 c1 k1 m1 e1∧L≤G∧G+1<R
  | 3=>v=.pointer (some ⟨G,1,none⟩)
  | 4=>v=.string y.g.text
  | 5=>∃ a2 n2 c2 k2 m2 e2,v=.agg #[.int .i64 (bytI (bytesOf y.g.text)).cls,.int .i64 (bytI (bytesOf y.g.text)).tag,.bool (bytI (bytesOf y.g.text)).cons,.slice a2 n2 c2,.slice k2 m2 e2]∧ItZ L R 4 w (bytI (bytesOf y.g.text)) a2 n2 c2 k2 m2 e2∧L≤G∧G+1<R
  | 6=>v=.pointer (some ⟨G,2,none⟩)
  | 7=>v=.int .i64 y.g.addr
  | 8=>∃ a3 n3 c3 k3 m3 e3,v=.agg #[.int .i64 (numI y.g.addr).cls,.int .i64 (numI y.g.addr).tag,.bool (numI y.g.addr).cons,.slice a3 n3 c3,.slice k3 m3 e3]∧ItZ L R 4 w (numI y.g.addr) a3 n3 c3 k3 m3 e3∧L≤G∧G+1<R
  | 9=>v=.pointer (some ⟨G,3,none⟩)
  | 10=>v=.int .i64 y.g.bits
  | 11=>∃ a4 n4 c4 k4 m4 e4,v=.agg #[.int .i64 (numI y.g.bits).cls,.int .i64 (numI y.g.bits).tag,.bool (numI y.g.bits).cons,.slice a4 n4 c4,.slice k4 m4 e4]∧ItZ L R 4 w (numI y.g.bits) a4 n4 c4 k4 m4 e4∧L≤G∧G+1<R
  | 12=>v=.pointer (some ⟨G,4,none⟩)
  | 13=>v=.agg #[.slice an nn cn]
  | 14=>∃ a5 n5 c5 k5 m5 e5,v=.agg #[.int .i64 (namI y.parts).cls,.int .i64 (namI y.parts).tag,.bool (namI y.parts).cons,.slice a5 n5 c5,.slice k5 m5 e5]∧ItZ L R 4 w (namI y.parts) a5 n5 c5 k5 m5 e5∧L≤G∧G+1<R
  | 15=>∃ gr,v=.slice (some ⟨gr,0,none⟩) 5 5∧KidZ L R w gr 5 [numI y.g.kind,bytI (bytesOf y.g.text),numI y.g.addr,numI y.g.bits,namI y.parts]∧L≤G∧G+1<R
  | 16=>∃ a0 n0 c0 k0 m0 e0,v=.agg #[.int .i64 (gneI y).cls,.int .i64 (gneI y).tag,.bool (gneI y).cons,.slice a0 n0 c0,.slice k0 m0 e0]∧ItZ L R 5 w (gneI y) a0 n0 c0 k0 m0 e0∧L≤G∧G+1<R
  | 17=>∃ a0 n0 c0 k0 m0 e0,w.heap[(G+1)]? = some (.cells #[.int .i64 (gneI y).cls,.int .i64 (gneI y).tag,.bool (gneI y).cons,.slice a0 n0 c0,.slice k0 m0 e0] 75 (0,0))∧ItZ L R 5 w (gneI y) a0 n0 c0 k0 m0 e0∧L≤G∧G+1<R
  | 18=>w.heap[G]? = some (.cells #[.int .i64 y.g.kind,.string y.g.text,.int .i64 y.g.addr,.int .i64 y.g.bits,.slice an nn cn] 127 (0,0))
  | _=>w.heap[(G+1)]? = some (.cells #[.int .i64 0,.int .i64 0,.bool false,.slice none 0 0,.slice none 0 0] 75 (0,0))
theorem genitemr_stb (y:GE)(an:Option Addr)(nn cn:Nat)(L R G B:Nat)(k:Nat)(hk:k<20):StB ((genitemr y an nn cn L R G (B)).fact k):=by
 match k,hk with
 | 0,_=>exact fun _ _ _ h _=>h
 | 1,_=>exact fun _ _ _ h _=>h
 | 2,_=>exact fun _ _ _ ⟨a1,n1,c1,k1,m1,e1,hv,q_0,q_1⟩ hb=>⟨a1,n1,c1,k1,m1,e1,hv,q_0.kept hb,q_1⟩
 | 3,_=>exact fun _ _ _ h _=>h
 | 4,_=>exact fun _ _ _ h _=>h
 | 5,_=>exact fun _ _ _ ⟨a2,n2,c2,k2,m2,e2,hv,q_0,q_1⟩ hb=>⟨a2,n2,c2,k2,m2,e2,hv,q_0.kept hb,q_1⟩
 | 6,_=>exact fun _ _ _ h _=>h
 | 7,_=>exact fun _ _ _ h _=>h
 | 8,_=>exact fun _ _ _ ⟨a3,n3,c3,k3,m3,e3,hv,q_0,q_1⟩ hb=>⟨a3,n3,c3,k3,m3,e3,hv,q_0.kept hb,q_1⟩
 | 9,_=>exact fun _ _ _ h _=>h
 | 10,_=>exact fun _ _ _ h _=>h
 | 11,_=>exact fun _ _ _ ⟨a4,n4,c4,k4,m4,e4,hv,q_0,q_1⟩ hb=>⟨a4,n4,c4,k4,m4,e4,hv,q_0.kept hb,q_1⟩
 | 12,_=>exact fun _ _ _ h _=>h
 | 13,_=>exact fun _ _ _ h _=>h
 | 14,_=>exact fun _ _ _ ⟨a5,n5,c5,k5,m5,e5,hv,q_0,q_1⟩ hb=>⟨a5,n5,c5,k5,m5,e5,hv,q_0.kept hb,q_1⟩
 | 15,_=>exact fun _ _ _ ⟨gr,hv,q_0,q_1⟩ hb=>⟨gr,hv,q_0.kept hb,q_1⟩
 | 16,_=>exact fun _ _ _ ⟨a0,n0,c0,k0,m0,e0,hv,q_0,q_1⟩ hb=>⟨a0,n0,c0,k0,m0,e0,hv,q_0.kept hb,q_1⟩
 | 17,_=>exact fun _ _ _ ⟨a0,n0,c0,k0,m0,e0,q_0,q_1,q_2⟩ hb=>⟨a0,n0,c0,k0,m0,e0,below_kept q_0 hb,q_1.kept hb,q_2⟩
 | 18,_=>exact fun _ _ _ q_0 hb=>below_kept q_0 hb
 | 19,_=>exact fun _ _ _ q_0 hb=>below_kept q_0 hb
 | k+20,hk=>omega
theorem genitemr_st17 (y:GE)(an:Option Addr)(nn cn:Nat)(L R G B:Nat){W W2:World}{cs:Array Value}{fr:Nat × Nat}(hg:W.heap[(G+1)]? = some (.cells cs 75 fr))(ht:Touch ((G+1)) ((G+1)+1) W W2)(k:Nat)(hk:k<20)(hne:k≠17)(hkill:17∉(genitemr y an nn cn L R G (B)).kill k)(v:Value)(hfact:(genitemr y an nn cn L R G (B)).fact k v W):(genitemr y an nn cn L R G (B)).fact k v W2:=by
 match k,hk,hne,hkill,hfact with
 | 0,_,_,_,hq=>exact hq
 | 1,_,_,_,hq=>exact hq
 | 2,_,_,_,⟨a1,n1,c1,k1,m1,e1,hv,q_0,q_1⟩=>exact ⟨a1,n1,c1,k1,m1,e1,hv,q_0.touched ht (by omega),q_1⟩
 | 3,_,_,_,hq=>exact hq
 | 4,_,_,_,hq=>exact hq
 | 5,_,_,_,⟨a2,n2,c2,k2,m2,e2,hv,q_0,q_1⟩=>exact ⟨a2,n2,c2,k2,m2,e2,hv,q_0.touched ht (by omega),q_1⟩
 | 6,_,_,_,hq=>exact hq
 | 7,_,_,_,hq=>exact hq
 | 8,_,_,_,⟨a3,n3,c3,k3,m3,e3,hv,q_0,q_1⟩=>exact ⟨a3,n3,c3,k3,m3,e3,hv,q_0.touched ht (by omega),q_1⟩
 | 9,_,_,_,hq=>exact hq
 | 10,_,_,_,hq=>exact hq
 | 11,_,_,_,⟨a4,n4,c4,k4,m4,e4,hv,q_0,q_1⟩=>exact ⟨a4,n4,c4,k4,m4,e4,hv,q_0.touched ht (by omega),q_1⟩
 | 12,_,_,_,hq=>exact hq
 | 13,_,_,_,hq=>exact hq
 | 14,_,_,_,⟨a5,n5,c5,k5,m5,e5,hv,q_0,q_1⟩=>exact ⟨a5,n5,c5,k5,m5,e5,hv,q_0.touched ht (by omega),q_1⟩
 | 15,_,_,_,⟨gr,hv,q_0,q_1⟩=>exact ⟨gr,hv,q_0.touched ht (by omega),q_1⟩
 | 16,_,_,_,⟨a0,n0,c0,k0,m0,e0,hv,q_0,q_1⟩=>exact ⟨a0,n0,c0,k0,m0,e0,hv,q_0.touched ht (by omega),q_1⟩
 | 17,_,hne,_,_=>exact absurd rfl hne
 | 18,_,_,_,q_0=>exact box_box q_0 hg (by decide) ht
 | 19,_,_,hkill,_=>exact absurd (List.Mem.head _) hkill
 | k+20,hk,_,_,_=>omega
theorem genItem_R (y:GE)(an:Option Addr)(nn cn:Nat)(L:Nat)(w:World)(hLw:L≤w.heap.size)(h:Pts w an nn y.parts)(hw:W64 y.g.kind∧W64 y.g.addr∧W64 y.g.bits)(hs:y.g.text.size≤9223372036854775807)(ha:∀ k,k<nn→W64 (y.parts.getD k default).attr)(hn:nn≤1000) :
  Calls Tryz.prog 106 #[.agg #[.int .i64 y.g.kind,.string y.g.text,.int .i64 y.g.addr,.int .i64 y.g.bits,.slice an nn cn]] w fun e w'=>ItR L w.heap.size 5 (gneI y) e w'∧Below w.heap.size w w':=by
 obtain ⟨w1,hw1⟩:∃ w1,w1=(w.alloc (.cells #[.int .i64 y.g.kind,.string y.g.text,.int .i64 y.g.addr,.int .i64 y.g.bits,.slice an nn cn] 127)).alloc (.cells #[.int .i64 0,.int .i64 0,.bool false,.slice none 0 0,.slice none 0 0] 75):=⟨_,rfl⟩
 have hbb:Below w.heap.size w w1:=by rw [hw1]; exact ((Below.refl _ _).alloc (Nat.le_refl _) _).alloc (by simp) _
 have HB1:Hid (_∧_):=two_blocks w (.cells #[.int .i64 y.g.kind,.string y.g.text,.int .i64 y.g.addr,.int .i64 y.g.bits,.slice an nn cn] 127) (.cells #[.int .i64 0,.int .i64 0,.bool false,.slice none 0 0,.slice none 0 0] 75)
 rw [← hw1] at HB1
 have hsz:w1.heap.size=w.heap.size+2:=by rw [hw1]; simp
 have HGB:L≤w.heap.size∧w.heap.size+1<w1.heap.size:=⟨hLw,by omega⟩
 have HLB:∀ W,Below w.heap.size w1 W→L≤W.heap.size:=fun W hW=>by have:=hW.size; omega
 have HBB:w.heap.size≤w1.heap.size:=hbb.size
 have HW:Hid (_=_):=hw1
 clear hw1
 go_enter Tryz.func106,Tryz.ntmps106
 go_upto_region 1 with fail
 rw [← HW.out]
 clear HW
 refine wp_region_ri (genitemr y an nn cn L w1.heap.size w.heap.size (w.heap.size)) [3,4,5,6,7,8,9,10,11,12,13,14,15,16,17,18,19] (w.heap.size) (fun a0=>a0.tmps.size=20∧aT a0 1=.pointer (some ⟨w.heap.size,0,none⟩)∧aT a0 2=.pointer (some ⟨(w.heap.size+1),0,none⟩)) (by kernel_rfl) rfl (by kernel_rfl) rfl ⟨rfl,rfl,rfl⟩ (genitemr_stb y an nn cn L w1.heap.size w.heap.size (w.heap.size)) ?_ ?_ ?_
 ·intro k hk hk2
  match k,hk,hk2 with
  | 18,_,_=>exact HB1.out.1
  | 19,_,_=>exact HB1.out.2
  | 0,hk,_=>exact absurd hk (by show ¬ (18≤0); omega)
  | 1,hk,_=>exact absurd hk (by show ¬ (18≤1); omega)
  | 2,hk,_=>exact absurd hk (by show ¬ (18≤2); omega)
  | 3,hk,_=>exact absurd hk (by show ¬ (18≤3); omega)
  | 4,hk,_=>exact absurd hk (by show ¬ (18≤4); omega)
  | 5,hk,_=>exact absurd hk (by show ¬ (18≤5); omega)
  | 6,hk,_=>exact absurd hk (by show ¬ (18≤6); omega)
  | 7,hk,_=>exact absurd hk (by show ¬ (18≤7); omega)
  | 8,hk,_=>exact absurd hk (by show ¬ (18≤8); omega)
  | 9,hk,_=>exact absurd hk (by show ¬ (18≤9); omega)
  | 10,hk,_=>exact absurd hk (by show ¬ (18≤10); omega)
  | 11,hk,_=>exact absurd hk (by show ¬ (18≤11); omega)
  | 12,hk,_=>exact absurd hk (by show ¬ (18≤12); omega)
  | 13,hk,_=>exact absurd hk (by show ¬ (18≤13); omega)
  | 14,hk,_=>exact absurd hk (by show ¬ (18≤14); omega)
  | 15,hk,_=>exact absurd hk (by show ¬ (18≤15); omega)
  | 16,hk,_=>exact absurd hk (by show ¬ (18≤16); omega)
  | 17,hk,_=>exact absurd hk (by show ¬ (18≤17); omega)
  | k+20,_,hk2=>exact absurd hk2 (by show ¬ (k+20<20); omega)
 ·rintro a0 ⟨hz,g1,g2⟩
  refine StepsRI.cons ?_ (StepsRI.cons ?_ (StepsRI.cons ?_ (StepsRI.cons ?_ (StepsRI.cons ?_ (StepsRI.cons ?_ (StepsRI.cons ?_ (StepsRI.cons ?_ (StepsRI.cons ?_ (StepsRI.cons ?_ (StepsRI.cons ?_ (StepsRI.cons ?_ (StepsRI.cons ?_ (StepsRI.cons ?_ (StepsRI.cons ?_ (StepsRI.cons ?_ (StepsRI.cons ?_ (StepsRI.cons ?_ (StepsRI.nil))))))))))))))))))
  ·intro lQ b W hI hUN hED KQ hKQ
   exact opw_field 127 1 0 rfl _ ((hI.fr.same 1 (by decide)).trans g1) _ (by kernel_rfl) (hKQ.out _ _ (hI.put 0 3 rfl rfl (by rw [hz]; decide) rfl hUN rfl HBB (genitemr_stb y an nn cn L w1.heap.size w.heap.size (w.heap.size)) (Below.refl _ _) rfl))
  ·intro lQ b W hI hUN hED KQ hKQ
   have f:=hI.got 0 (of_decide_eq_true rfl) (edge hED 0 (by kernel_rfl)) rfl
   have hg:=(hI.vot 18 (of_decide_eq_true rfl) (of_decide_eq_true rfl) rfl)
   have hc:W.cell? ⟨w.heap.size,0,none⟩=some (.int .i64 y.g.kind):=(cell_of_row _ _ 0 _ _ (0,0) hg).trans rfl
   exact opw_load1 2 3 rfl _ f _ (by simp [Instr.loadAt,go_sem,hc]) (hKQ.out _ _ (hI.put 1 4 rfl rfl (by rw [hz]; decide) rfl hUN rfl HBB (genitemr_stb y an nn cn L w1.heap.size w.heap.size (w.heap.size)) (Below.refl _ _) rfl))
  ·intro lQ b W hI hUN hED KQ hKQ
   have f0:aT b 4=.int .i64 y.g.kind:=hI.got 1 (of_decide_eq_true rfl) (edge hED 1 (by kernel_rfl)) rfl
   refine opw_call 101 #[.tmp 4] _ _ _ rfl Tryz.func101 (by kernel_rfl) rfl #[.int .i64 y.g.kind] (by simp [ev,f0]) ?_
   refine (numberItem_R y.g.kind L W hw.1).mono ?_
   rintro r W2 ⟨⟨a1,n1,c1,k1,m1,e1,rfl,hzI⟩,hb⟩
   exact ⟨_,rfl,hKQ.out _ _ (hI.put 2 5 rfl rfl (by rw [hz]; decide) rfl hUN rfl HBB (genitemr_stb y an nn cn L w1.heap.size w.heap.size (w.heap.size)) hb ⟨a1,n1,c1,k1,m1,e1,rfl,((hzI.mono hI.bel.size).le (by decide)),HGB⟩)⟩
  ·intro lQ b W hI hUN hED KQ hKQ
   exact opw_field 127 1 1 rfl _ ((hI.fr.same 1 (by decide)).trans g1) _ (by kernel_rfl) (hKQ.out _ _ (hI.put 3 6 rfl rfl (by rw [hz]; decide) rfl hUN rfl HBB (genitemr_stb y an nn cn L w1.heap.size w.heap.size (w.heap.size)) (Below.refl _ _) rfl))
  ·intro lQ b W hI hUN hED KQ hKQ
   have f:=hI.got 3 (of_decide_eq_true rfl) (edge hED 3 (by kernel_rfl)) rfl
   have hg:=(hI.vot 18 (of_decide_eq_true rfl) (of_decide_eq_true rfl) rfl)
   have hc:W.cell? ⟨w.heap.size,1,none⟩=some (.string y.g.text):=(cell_of_row _ _ 1 _ _ (0,0) hg).trans rfl
   exact opw_load1 9 6 rfl _ f _ (by simp [Instr.loadAt,go_sem,hc]) (hKQ.out _ _ (hI.put 4 7 rfl rfl (by rw [hz]; decide) rfl hUN rfl HBB (genitemr_stb y an nn cn L w1.heap.size w.heap.size (w.heap.size)) (Below.refl _ _) rfl))
  ·intro lQ b W hI hUN hED KQ hKQ
   have f0:aT b 7=.string y.g.text:=hI.got 4 (of_decide_eq_true rfl) (edge hED 4 (by kernel_rfl)) rfl
   refine opw_call 158 #[.tmp 7] _ _ _ rfl Tryz.func158 (by kernel_rfl) rfl #[.string y.g.text] (by simp [ev,f0]) ?_
   refine (textItem_R y.g.text L W hs (HLB W hI.bel)).mono ?_
   rintro r W2 ⟨⟨a2,n2,c2,k2,m2,e2,rfl,hzI⟩,hb⟩
   exact ⟨_,rfl,hKQ.out _ _ (hI.put 5 8 rfl rfl (by rw [hz]; decide) rfl hUN rfl HBB (genitemr_stb y an nn cn L w1.heap.size w.heap.size (w.heap.size)) hb ⟨a2,n2,c2,k2,m2,e2,rfl,((hzI.mono hI.bel.size).le (by decide)),HGB⟩)⟩
  ·intro lQ b W hI hUN hED KQ hKQ
   exact opw_field 127 1 2 rfl _ ((hI.fr.same 1 (by decide)).trans g1) _ (by kernel_rfl) (hKQ.out _ _ (hI.put 6 9 rfl rfl (by rw [hz]; decide) rfl hUN rfl HBB (genitemr_stb y an nn cn L w1.heap.size w.heap.size (w.heap.size)) (Below.refl _ _) rfl))
  ·intro lQ b W hI hUN hED KQ hKQ
   have f:=hI.got 6 (of_decide_eq_true rfl) (edge hED 6 (by kernel_rfl)) rfl
   have hg:=(hI.vot 18 (of_decide_eq_true rfl) (of_decide_eq_true rfl) rfl)
   have hc:W.cell? ⟨w.heap.size,2,none⟩=some (.int .i64 y.g.addr):=(cell_of_row _ _ 2 _ _ (0,0) hg).trans rfl
   exact opw_load1 2 9 rfl _ f _ (by simp [Instr.loadAt,go_sem,hc]) (hKQ.out _ _ (hI.put 7 10 rfl rfl (by rw [hz]; decide) rfl hUN rfl HBB (genitemr_stb y an nn cn L w1.heap.size w.heap.size (w.heap.size)) (Below.refl _ _) rfl))
  ·intro lQ b W hI hUN hED KQ hKQ
   have f0:aT b 10=.int .i64 y.g.addr:=hI.got 7 (of_decide_eq_true rfl) (edge hED 7 (by kernel_rfl)) rfl
   refine opw_call 101 #[.tmp 10] _ _ _ rfl Tryz.func101 (by kernel_rfl) rfl #[.int .i64 y.g.addr] (by simp [ev,f0]) ?_
   refine (numberItem_R y.g.addr L W hw.2.1).mono ?_
   rintro r W2 ⟨⟨a3,n3,c3,k3,m3,e3,rfl,hzI⟩,hb⟩
   exact ⟨_,rfl,hKQ.out _ _ (hI.put 8 11 rfl rfl (by rw [hz]; decide) rfl hUN rfl HBB (genitemr_stb y an nn cn L w1.heap.size w.heap.size (w.heap.size)) hb ⟨a3,n3,c3,k3,m3,e3,rfl,((hzI.mono hI.bel.size).le (by decide)),HGB⟩)⟩
  ·intro lQ b W hI hUN hED KQ hKQ
   exact opw_field 127 1 3 rfl _ ((hI.fr.same 1 (by decide)).trans g1) _ (by kernel_rfl) (hKQ.out _ _ (hI.put 9 12 rfl rfl (by rw [hz]; decide) rfl hUN rfl HBB (genitemr_stb y an nn cn L w1.heap.size w.heap.size (w.heap.size)) (Below.refl _ _) rfl))
  ·intro lQ b W hI hUN hED KQ hKQ
   have f:=hI.got 9 (of_decide_eq_true rfl) (edge hED 9 (by kernel_rfl)) rfl
   have hg:=(hI.vot 18 (of_decide_eq_true rfl) (of_decide_eq_true rfl) rfl)
   have hc:W.cell? ⟨w.heap.size,3,none⟩=some (.int .i64 y.g.bits):=(cell_of_row _ _ 3 _ _ (0,0) hg).trans rfl
   exact opw_load1 2 12 rfl _ f _ (by simp [Instr.loadAt,go_sem,hc]) (hKQ.out _ _ (hI.put 10 13 rfl rfl (by rw [hz]; decide) rfl hUN rfl HBB (genitemr_stb y an nn cn L w1.heap.size w.heap.size (w.heap.size)) (Below.refl _ _) rfl))
  ·intro lQ b W hI hUN hED KQ hKQ
   have f0:aT b 13=.int .i64 y.g.bits:=hI.got 10 (of_decide_eq_true rfl) (edge hED 10 (by kernel_rfl)) rfl
   refine opw_call 101 #[.tmp 13] _ _ _ rfl Tryz.func101 (by kernel_rfl) rfl #[.int .i64 y.g.bits] (by simp [ev,f0]) ?_
   refine (numberItem_R y.g.bits L W hw.2.2).mono ?_
   rintro r W2 ⟨⟨a4,n4,c4,k4,m4,e4,rfl,hzI⟩,hb⟩
   exact ⟨_,rfl,hKQ.out _ _ (hI.put 11 14 rfl rfl (by rw [hz]; decide) rfl hUN rfl HBB (genitemr_stb y an nn cn L w1.heap.size w.heap.size (w.heap.size)) hb ⟨a4,n4,c4,k4,m4,e4,rfl,((hzI.mono hI.bel.size).le (by decide)),HGB⟩)⟩
  ·intro lQ b W hI hUN hED KQ hKQ
   exact opw_field 127 1 4 rfl _ ((hI.fr.same 1 (by decide)).trans g1) _ (by kernel_rfl) (hKQ.out _ _ (hI.put 12 15 rfl rfl (by rw [hz]; decide) rfl hUN rfl HBB (genitemr_stb y an nn cn L w1.heap.size w.heap.size (w.heap.size)) (Below.refl _ _) rfl))
  ·intro lQ b W hI hUN hED KQ hKQ
   have f:aT b 15=.pointer (some ⟨w.heap.size,4,none⟩):=hI.got 12 (of_decide_eq_true rfl) (edge hED 12 (by kernel_rfl)) rfl
   have hg:=(hI.vot 18 (of_decide_eq_true rfl) (of_decide_eq_true rfl) rfl)
   have hc0:W.cell? ⟨w.heap.size,4,none⟩=some (.slice an nn cn):=(cell_of_row _ _ 4 _ _ (0,0) hg).trans rfl
   exact opw_load1 40 15 rfl _ f _ (by simp [Instr.loadAt,go_sem,hc0]) (hKQ.out _ _ (hI.put 13 16 rfl rfl (by rw [hz]; decide) rfl hUN rfl HBB (genitemr_stb y an nn cn L w1.heap.size w.heap.size (w.heap.size)) (Below.refl _ _) rfl))
  ·intro lQ b W hI hUN hED KQ hKQ
   have f0:aT b 16=.agg #[.slice an nn cn]:=hI.got 13 (of_decide_eq_true rfl) (edge hED 13 (by kernel_rfl)) rfl
   refine opw_call 102 #[.tmp 16] _ _ _ rfl Tryz.func102 (by kernel_rfl) rfl #[.agg #[.slice an nn cn]] (by simp [ev,f0]) ?_
   refine (nameItem_R an nn cn y.parts L W (HLB W hI.bel) (h.kept (hbb.trans hI.bel)) ha hn).mono ?_
   rintro r W2 ⟨⟨a5,n5,c5,k5,m5,e5,rfl,hzI⟩,hb⟩
   exact ⟨_,rfl,hKQ.out _ _ (hI.put 14 17 rfl rfl (by rw [hz]; decide) rfl hUN rfl HBB (genitemr_stb y an nn cn L w1.heap.size w.heap.size (w.heap.size)) hb ⟨a5,n5,c5,k5,m5,e5,rfl,((hzI.mono hI.bel.size).le (by decide)),HGB⟩)⟩
  ·intro lQ b W hI hUN hED KQ hKQ
   obtain ⟨a1,n1,c1,k1,m1,e1,f1,o1,_⟩:=hI.got 2 (of_decide_eq_true rfl) (edge hED 2 (by kernel_rfl)) rfl
   replace f1:aT b 5=.agg #[.int .i64 (numI y.g.kind).cls,.int .i64 (numI y.g.kind).tag,.bool (numI y.g.kind).cons,.slice a1 n1 c1,.slice k1 m1 e1]:=f1
   obtain ⟨a2,n2,c2,k2,m2,e2,f2,o2,_⟩:=hI.got 5 (of_decide_eq_true rfl) (edge hED 5 (by kernel_rfl)) rfl
   replace f2:aT b 8=.agg #[.int .i64 (bytI (bytesOf y.g.text)).cls,.int .i64 (bytI (bytesOf y.g.text)).tag,.bool (bytI (bytesOf y.g.text)).cons,.slice a2 n2 c2,.slice k2 m2 e2]:=f2
   obtain ⟨a3,n3,c3,k3,m3,e3,f3,o3,_⟩:=hI.got 8 (of_decide_eq_true rfl) (edge hED 8 (by kernel_rfl)) rfl
   replace f3:aT b 11=.agg #[.int .i64 (numI y.g.addr).cls,.int .i64 (numI y.g.addr).tag,.bool (numI y.g.addr).cons,.slice a3 n3 c3,.slice k3 m3 e3]:=f3
   obtain ⟨a4,n4,c4,k4,m4,e4,f4,o4,_⟩:=hI.got 11 (of_decide_eq_true rfl) (edge hED 11 (by kernel_rfl)) rfl
   replace f4:aT b 14=.agg #[.int .i64 (numI y.g.bits).cls,.int .i64 (numI y.g.bits).tag,.bool (numI y.g.bits).cons,.slice a4 n4 c4,.slice k4 m4 e4]:=f4
   obtain ⟨a5,n5,c5,k5,m5,e5,f5,o5,_⟩:=hI.got 14 (of_decide_eq_true rfl) (edge hED 14 (by kernel_rfl)) rfl
   replace f5:aT b 17=.agg #[.int .i64 (namI y.parts).cls,.int .i64 (namI y.parts).tag,.bool (namI y.parts).cons,.slice a5 n5 c5,.slice k5 m5 e5]:=f5
   refine opw_buildSliceT _ 5 _ rfl #[(0,.agg #[.int .i64 (numI y.g.kind).cls,.int .i64 (numI y.g.kind).tag,.bool (numI y.g.kind).cons,.slice a1 n1 c1,.slice k1 m1 e1]),(1,.agg #[.int .i64 (bytI (bytesOf y.g.text)).cls,.int .i64 (bytI (bytesOf y.g.text)).tag,.bool (bytI (bytesOf y.g.text)).cons,.slice a2 n2 c2,.slice k2 m2 e2]),(2,.agg #[.int .i64 (numI y.g.addr).cls,.int .i64 (numI y.g.addr).tag,.bool (numI y.g.addr).cons,.slice a3 n3 c3,.slice k3 m3 e3]),(3,.agg #[.int .i64 (numI y.g.bits).cls,.int .i64 (numI y.g.bits).tag,.bool (numI y.g.bits).cons,.slice a4 n4 c4,.slice k4 m4 e4]),(4,.agg #[.int .i64 (namI y.parts).cls,.int .i64 (namI y.parts).tag,.bool (namI y.parts).cons,.slice a5 n5 c5,.slice k5 m5 e5])] (by simp [ev,f1,f2,f3,f4,f5]) (.slice (some ⟨W.heap.size,0,none⟩) 5 5) (W.alloc (.cells #[.int .i64 (numI y.g.kind).cls,.int .i64 (numI y.g.kind).tag,.bool (numI y.g.kind).cons,.slice a1 n1 c1,.slice k1 m1 e1,.int .i64 (bytI (bytesOf y.g.text)).cls,.int .i64 (bytI (bytesOf y.g.text)).tag,.bool (bytI (bytesOf y.g.text)).cons,.slice a2 n2 c2,.slice k2 m2 e2,.int .i64 (numI y.g.addr).cls,.int .i64 (numI y.g.addr).tag,.bool (numI y.g.addr).cons,.slice a3 n3 c3,.slice k3 m3 e3,.int .i64 (numI y.g.bits).cls,.int .i64 (numI y.g.bits).tag,.bool (numI y.g.bits).cons,.slice a4 n4 c4,.slice k4 m4 e4,.int .i64 (namI y.parts).cls,.int .i64 (namI y.parts).tag,.bool (namI y.parts).cons,.slice a5 n5 c5,.slice k5 m5 e5] 75)) (by kernel_rfl) ?_
   exact hKQ.out _ _ (hI.put 15 18 rfl rfl (by rw [hz]; decide) rfl hUN rfl HBB (genitemr_stb y an nn cn L w1.heap.size w.heap.size (w.heap.size)) ((Below.refl _ _).alloc (Nat.le_refl _) _) ⟨W.heap.size,rfl,kidZ_n5 hI.bel.size o1 o2 o3 o4 o5,HGB⟩)
  ·intro lQ b W hI hUN hED KQ hKQ
   obtain ⟨gr,f0,o0,_⟩:=hI.got 15 (of_decide_eq_true rfl) (edge hED 15 (by kernel_rfl)) rfl
   replace f0:aT b 18=.slice (some ⟨gr,0,none⟩) 5 5:=f0
   refine opw_call 152 #[.tmp 18] _ _ _ rfl Tryz.func152 (by kernel_rfl) rfl #[.slice (some ⟨gr,0,none⟩) 5 5] (by simp [ev,f0]) ?_
   refine (structItem_R o0 rfl).mono ?_
   rintro r W2 ⟨⟨a0,n0,c0,k0,m0,e0,rfl,hzI⟩,hb⟩
   exact ⟨_,rfl,hKQ.out _ _ (hI.put 16 19 rfl rfl (by rw [hz]; decide) rfl hUN rfl HBB (genitemr_stb y an nn cn L w1.heap.size w.heap.size (w.heap.size)) hb ⟨a0,n0,c0,k0,m0,e0,rfl,hzI,HGB⟩)⟩
  ·intro lQ b W hI hUN hED KQ hKQ
   have hgb:=(hI.vot1 19 17 (of_decide_eq_true rfl) (of_decide_eq_true rfl) hUN rfl)
   have fb:=((hI.fr.same 2 (by decide)).trans g2)
   have f:=hI.got 16 (of_decide_eq_true rfl) (edge hED 16 (by kernel_rfl)) rfl
   obtain ⟨a0,n0,c0,k0,m0,e0,f,o_0,o_1⟩:=f
   refine wp_store_row 75 _ _ rfl ((w.heap.size+1)) #[.int .i64 (gneI y).cls,.int .i64 (gneI y).tag,.bool (gneI y).cons,.slice a0 n0 c0,.slice k0 m0 e0] fb f 75 _ hgb (by kernel_rfl) rfl (by simp [Value.oneCell']) ?_
   have ht:=setRow_touch W ((w.heap.size+1)) #[.int .i64 (gneI y).cls,.int .i64 (gneI y).tag,.bool (gneI y).cons,.slice a0 n0 c0,.slice k0 m0 e0]
   exact hKQ.out _ _ (hI.store 17 (fun j hj=>by cases hj) (hI.bel.trans (ht.below (by first | exact HGE2 | omega) (Nat.le_trans HBB hI.bel.size))) (genitemr_st17 y an nn cn L w1.heap.size w.heap.size (w.heap.size) hgb ht) ⟨a0,n0,c0,k0,m0,e0,(setRow_heap W ((w.heap.size+1)) _ _ _ _ hgb),o_0.touched ht (by omega),o_1⟩)
 ·intro b W hf hb F
  obtain ⟨a0,n0,c0,k0,m0,e0,hbx,hz,_⟩:=F 17 (of_decide_eq_true rfl) rfl
  rw [hf.eq]
  simp only [puts,Act.put,List.setIfInBounds_toArray,List.set_cons_zero,List.set_cons_succ]
  clear hf F
  generalize aT b=AT
  clear b
  go_wp2
  try simp only [Exit.inBlock,Exit.then]
  exact bodyPost_ret (results_it rfl _ (w.heap.size+1) rfl _ _ _ _ _ _ hbx) rfl ⟨⟨a0,n0,c0,k0,m0,e0,rfl,hz.mono hbb.size⟩,hbb.trans hb⟩
theorem Gne_next (xs:List GE)(k:Nat)(h:k<xs.length):(xs.take (k+1)).map gneI=(xs.take k).map gneI++[gneI (xs.getD k default)]:=by
 rw [List.take_add_one,List.map_append]
 simp [h]
theorem eachGne_R (a:Option Addr)(n c:Nat)(xs:List GE)(L:Nat)(w:World)(hLw:L≤w.heap.size)(h:Ges w a n xs)(hw:∀ k,k<n→GeW (xs.getD k default))(hn:n≤1000) :
  Calls Tryz.prog 157 #[.slice a n c,.func (Fn.func 106) #[] #[]] w fun e w'=>∃ ao co,e=.returned (.slice ao n co)∧OwnItZ 5 L w.heap.size w' ao n co (xs.map gneI)∧Below w.heap.size w w':=by
 obtain ⟨i0,hi,hz0,hz1,hz2⟩:=info_parts Tryz.infoIt
 have H0:Hid (Ges w a n xs):=h
 have HPw:Hid (∀ k,k<n→GeW (xs.getD k default)):=hw
 have HLX:Hid (xs.length=n):=h.len
 clear h hw
 go_enter Tryz.func157,Tryz.ntmps157
 go_wp2
 go_loopw [5,10] (fun o i wr=>∃ (k:Nat) (ao:Option Addr) (cc:Nat),k≤n∧i=.int .i64 k∧o=.slice ao k cc∧Hid (OwnItZ 5 L w.heap.size wr ao k cc ((xs.take k).map gneI))∧Below w.heap.size w wr) (fun _ i _=>n - (intOf i).toNat)
 case atStart=>exact ⟨0,none,0,Nat.zero_le _,rfl,rfl,ownItZ_none _ _ _ _,Below.refl _ _⟩
 case round =>
  obtain ⟨k,ao,cc,hk,rfl,rfl,HO,hbr⟩:=hrel
  have hws:=hbr.size
  by_cases hlt:k<n
  ·obtain ⟨b,off,an,nn,cn,rfl,hlb,hc,hp,hsz⟩:=H0.out.get k hlt
   obtain ⟨y,hy⟩:∃ y,y=xs.getD k default:=⟨_,rfl⟩
   rw [← hy] at hc hp hsz
   have HYW:Hid (GeW y):=by show GeW _; rw [hy]; exact HPw.out k hlt
   have HYS:Hid (y.g.text.size≤9223372036854775807):=hsz
   have HPP:Hid (Pts w an nn y.parts):=hp
   have HNN:Hid (y.parts.length=nn):=hp.len
   obtain ⟨z,hz⟩:∃ z,z=gneI y:=⟨_,rfl⟩
   have HXK:Hid ((xs.take (k+1)).map gneI=(xs.take k).map gneI++[z]):=by show _=_; rw [hz,hy]; exact Gne_next xs k (by rw [HLX.out]; exact hlt)
   obtain ⟨c0,c1,c2,c3,c4⟩:=hc.of (w':=wr) (fun i=>hbr.cell (p:=⟨b,i,none⟩) hlb)
   clear hc hsz hp
   have hkni:(k:Int)<(n:Int):=by omega
   have hbw:b<wr.heap.size:=by omega
   have hbz:Below wr.heap.size wr (wr.alloc (.cells #[.int .i64 y.g.kind,.string y.g.text,.int .i64 y.g.addr,.int .i64 y.g.bits,.slice an nn cn] 127)):=(Below.refl _ _).alloc (Nat.le_refl _) _
   have hbz2:Below w.heap.size w (wr.alloc (.cells #[.int .i64 y.g.kind,.string y.g.text,.int .i64 y.g.addr,.int .i64 y.g.bits,.slice an nn cn] 127)):=hbr.trans (hbz.mono hws)
   have HCON:Hid (Calls Tryz.prog 106 #[.agg #[.int .i64 y.g.kind,.string y.g.text,.int .i64 y.g.addr,.int .i64 y.g.bits,.slice an nn cn]] (wr.alloc (.cells #[.int .i64 y.g.kind,.string y.g.text,.int .i64 y.g.addr,.int .i64 y.g.bits,.slice an nn cn] 127)) fun e w'=>ItR L (wr.alloc (.cells #[.int .i64 y.g.kind,.string y.g.text,.int .i64 y.g.addr,.int .i64 y.g.bits,.slice an nn cn] 127)).heap.size 5 z e w'∧Below (wr.alloc (.cells #[.int .i64 y.g.kind,.string y.g.text,.int .i64 y.g.addr,.int .i64 y.g.bits,.slice an nn cn] 127)).heap.size (wr.alloc (.cells #[.int .i64 y.g.kind,.string y.g.text,.int .i64 y.g.addr,.int .i64 y.g.bits,.slice an nn cn] 127)) w'):=by rw [hz]; exact genItem_R y an nn cn L _ (by have:=hbz.size; omega) (HPP.out.kept hbz2) HYW.out.1 HYS.out (fun j hj=>HYW.out.2.1 j (by rw [HNN.out]; exact hj)) (by rw [← HNN.out]; exact HYW.out.2.2)
   clear hy hz
   go_wp2_with fail
   refine HCON.out.mono ?_
   rintro e w2 ⟨⟨ab,nb,cb,ak,nk,ck,rfl,hit⟩,hb2⟩
   have hb2r:Below wr.heap.size wr w2:=keepT hbz hb2
   have B2:Below w.heap.size w w2:=hbr.trans (hb2r.mono hws)
   have hal:Below w2.heap.size w2 (w2.alloc (.cells #[.int .i64 z.cls,.int .i64 z.tag,.bool z.cons,.slice ab nb cb,.slice ak nk ck] 75)):=(Below.refl _ _).alloc (Nat.le_refl _) _
   have B6:Below w.heap.size w (w2.alloc (.cells #[.int .i64 z.cls,.int .i64 z.tag,.bool z.cons,.slice ab nb cb,.slice ak nk ck] 75)):=B2.trans (hal.mono B2.size)
   have hs6:(w2.alloc (.cells #[.int .i64 z.cls,.int .i64 z.tag,.bool z.cons,.slice ab nb cb,.slice ak nk ck] 75)).heap.size=w2.heap.size+1:=by simp
   have hs2:=hb2r.size
   have hsz1:=hbz.size
   have HQ3:Hid (OwnItZ 5 L w.heap.size (w2.alloc (.cells #[.int .i64 z.cls,.int .i64 z.tag,.bool z.cons,.slice ab nb cb,.slice ak nk ck] 75)) ao k cc ((xs.take k).map gneI)):=(HO.out.kept hb2r).kept hal
   obtain ⟨vs,hrow⟩:=HQ3.out.row
   have HROW:Hid (_):=hrow
   have hown:∀ b,(Value.slice ao k cc).ownBlock=some b→w.heap.size≤b∧b<wr.heap.size:=fun b hb=>by obtain ⟨vs0,hv0⟩:=HO.out.row; exact ⟨HO.out.2 b hb,(hv0.lt b hb).2⟩
   have HAPP:Hid (∀ g7 c7 w7,w7.ownsRow 0 75 5 (.slice (some ⟨g7,0,none⟩) (k+1) c7) (k+1) (vs++itc z ab nb cb ak nk ck)→(w2.alloc (.cells #[.int .i64 z.cls,.int .i64 z.tag,.bool z.cons,.slice ab nb cb,.slice ak nk ck] 75)).grownBy w7 (Value.slice ao k cc).ownBlock→((Value.slice ao k cc).ownBlock=some g7∨g7=w2.heap.size+1)→OwnItZ 5 L w.heap.size w7 (some ⟨g7,0,none⟩) (k+1) c7 ((xs.take (k+1)).map gneI)∧Below w.heap.size w w7):=by
    intro g7 c7 w7 hv7 hg7 hl7
    have hit2:=hit.kept hal
    rw [HXK.out]
    refine ⟨HQ3.out.appended hit2.it (fun b hb=>⟨by have:=hb.1; omega,hb.2,fun e=>by have:=hown b e; have:=hb.1; omega⟩) (by omega) HROW.out hv7 hg7 (by rw [hs6]; exact hl7) B6.size,B6.grown hg7 (by have:=B6.size; omega) (fun kx hx=>HQ3.out.2 kx hx)⟩
   clear c0 c1 c2 c3 c4 hrow HO hb2 hb2r B2 hal hbz hbz2 hit HCON
   go_wp2_with (at_builtin; refine wpList_append_lies _ rfl (.tmp 14) (.tmp 18) 73 rfl 0 75 i0 _ 5 72 Tryz.underlying73 hi hz0 hz1 hz2 rfl (by decide) _ k vs rfl HROW.out ⟨w2.heap.size,0,none⟩ 1 1 [.int .i64 z.cls,.int .i64 z.tag,.bool z.cons,.slice ab nb cb,.slice ak nk ck] rfl rfl (World.news_of_block (heap_alloc_new w2 (.cells #[.int .i64 z.cls,.int .i64 z.tag,.bool z.cons,.slice ab nb cb,.slice ak nk ck] 75))) (by intro u hu; simp only [List.mem_cons,List.not_mem_nil,or_false] at hu; rcases hu with rfl | rfl | rfl | rfl | rfl <;> rfl) (by decide) (by unfold maxLen; omega) (by omega) (Nat.zero_le _) (w2.heap.size+1) (by simp) ?_; intro g7 c7 w7 hv7 hg7 hl7 hlt7; have HN7:=HAPP.out g7 c7 w7 hv7 hg7 hl7; have HO7:Hid (_):=HN7.1; have B7:=HN7.2; clear hv7 hg7 hl7 hlt7 HN7 HAPP HQ3 HROW)
   go_roundw
   case rel=>exact ⟨k+1,_,c7,by omega,by go_num,rfl,HO7,B7⟩
   case measure=>simp [intOf]; omega
  ·obtain rfl:k=n:=by omega
   have HX:Hid (xs.take k=xs):=by show _=_; rw [List.take_of_length_le (by rw [HLX.out]; exact Nat.le_refl _)]
   go_wp2
   go_ret
   refine ⟨ao,cc,rfl,?_,hbr⟩
   have:=HO.out
   rw [HX.out] at this
   exact this
theorem listItemGne_R (a:Option Addr)(n c:Nat)(xs:List GE)(L:Nat)(w:World)(hLw:L≤w.heap.size)(h:Ges w a n xs)(hw:∀ k,k<n→GeW (xs.getD k default))(hn:n≤1000) :
  Calls Tryz.prog 105 #[.slice a n c,.func (Fn.func 106) #[] #[]] w fun e w'=>ItR L w.heap.size 6 (lstI (xs.map gneI)) e w'∧Below w.heap.size w w':=by
 have hbx:=box5_below w
 have hsz:=box5_size w
 have HB5:Hid (_=_):=box5_new w
 have HE:Hid (_):=eachGne_R a n c xs L (box5 w) (by omega) (h.kept hbx) hw hn
 clear h hw
 go_enter Tryz.func105,Tryz.ntmps105
 go_wp2_with fail
 refine Calls.mono HE.out ?_
 rintro e w2 ⟨ao,co,rfl,ho,hb2⟩
 have HK:Hid (KidsI 6 (fun b=>(b<L∨(box5 w).heap.size≤b)∧b<w2.heap.size) w2 ao n (xs.map gneI)):=ho.kids
 have h5:=below_kept HB5.out hb2
 obtain ⟨_,q0,q1,q2,q3,q4,q5,q6,q7,q8,q9⟩:=Box5.of h5
 have H5:Hid (_=_):=h5
 have B2:Below w.heap.size w w2:=keepT hbx hb2
 have hs2:=hb2.size
 clear ho h5 hb2 HE
 go_wp2_with fail
 try simp only [Exit.inBlock,Exit.then]
 have T:=put5_touch w2 w.heap.size (.int .i64 0) (.int .i64 17) (.bool true) (.slice none 0 0) (.slice ao n co)
 have hZ:ListZ L (w.heap.size+1) 6 w2 ao n (xs.map gneI):=⟨HK.out.mono (fun b hb=>⟨by have:=hb.1; omega,hb.2⟩)⟩
 exact bodyPost_ret (results_it rfl _ w.heap.size rfl _ _ _ _ _ _ (put5_heap H5.out _ _ _ _ _)) rfl ⟨⟨_,_,_,_,_,_,rfl,(hZ.itz (co:=co)).put hLw (by omega) _ _ _ _ _⟩,B2.trans (T.below (Nat.le_refl _) B2.size)⟩
open Go.RowKit Go.Sort
def l9pubr (y:Int × Int × Int)(L R G B:Nat):RSpec where
 m:=13
 n:=15
 slots:=[3,4,5,6,7,8,9,10,11,12,13,14,100012,100013,100014]
 kills:=[[],[],[],[],[],[],[],[],[],[],[],[],[],[],[12]]
 pres:=[[],[],[],[],[],[],[],[],[],[],[],[],[],[],[]]
 fact:=fun k v w=>match k with
  | 0=>v=.pointer (some ⟨G,0,none⟩)
  | 1=>v=.int .i64 y.1
  | 2=>∃ a1 n1 c1 k1 m1 e1,v=.agg #[.int .i64 (numI y.1).cls,.int .i64 (numI y.1).tag,.bool (numI y.1).cons,.slice a1 n1 c1,.slice k1 m1 e1]∧ItZ L R 1 w (numI y.1) a1 n1 c1 k1 m1 e1∧L≤G∧G+1<R
  | 3=>v=.pointer (some ⟨G,1,none⟩)
  | 4=>v=.int .u64 y.2.1
  | 5=>∃ q0 d0,v=.slice q0 8 d0∧OwnT R w q0 8 d0 (eightI y.2.1)∧L≤G∧G+1<R
  | 6=>∃ a2 n2 c2 k2 m2 e2,v=.agg #[.int .i64 (bytI (eightI y.2.1)).cls,.int .i64 (bytI (eightI y.2.1)).tag,.bool (bytI (eightI y.2.1)).cons,.slice a2 n2 c2,.slice k2 m2 e2]∧ItZ L R 1 w (bytI (eightI y.2.1)) a2 n2 c2 k2 m2 e2∧L≤G∧G+1<R
  | 7=>v=.pointer (some ⟨G,2,none⟩)
  | 8=>v=.int .i64 y.2.2
  | 9=>∃ a3 n3 c3 k3 m3 e3,v=.agg #[.int .i64 (numI y.2.2).cls,.int .i64 (numI y.2.2).tag,.bool (numI y.2.2).cons,.slice a3 n3 c3,.slice k3 m3 e3]∧ItZ L R 1 w (numI y.2.2) a3 n3 c3 k3 m3 e3∧L≤G∧G+1<R
  | 10=>∃ gr,v=.slice (some ⟨gr,0,none⟩) 3 3∧KidZ L R w gr 2 [numI y.1,bytI (eightI y.2.1),numI y.2.2]∧L≤G∧G+1<R
  | 11=>∃ a0 n0 c0 k0 m0 e0,v=.agg #[.int .i64 (kyI y).cls,.int .i64 (kyI y).tag,.bool (kyI y).cons,.slice a0 n0 c0,.slice k0 m0 e0]∧ItZ L R 2 w (kyI y) a0 n0 c0 k0 m0 e0∧L≤G∧G+1<R
  | 12=>∃ a0 n0 c0 k0 m0 e0,w.heap[(G+1)]? = some (.cells #[.int .i64 (kyI y).cls,.int .i64 (kyI y).tag,.bool (kyI y).cons,.slice a0 n0 c0,.slice k0 m0 e0] 75 (0,0))∧ItZ L R 2 w (kyI y) a0 n0 c0 k0 m0 e0∧L≤G∧G+1<R
  | 13=>w.heap[G]? = some (.cells #[.int .i64 y.1,.int .u64 y.2.1,.int .i64 y.2.2] 41 (0,0))
  | _=>w.heap[(G+1)]? = some (.cells #[.int .i64 0,.int .i64 0,.bool false,.slice none 0 0,.slice none 0 0] 75 (0,0))
theorem l9pubr_stb (y:Int × Int × Int)(L R G B:Nat)(k:Nat)(hk:k<15):StB ((l9pubr y L R G (B)).fact k):=by
 match k,hk with
 | 0,_=>exact fun _ _ _ h _=>h
 | 1,_=>exact fun _ _ _ h _=>h
 | 2,_=>exact fun _ _ _ ⟨a1,n1,c1,k1,m1,e1,hv,q_0,q_1⟩ hb=>⟨a1,n1,c1,k1,m1,e1,hv,q_0.kept hb,q_1⟩
 | 3,_=>exact fun _ _ _ h _=>h
 | 4,_=>exact fun _ _ _ h _=>h
 | 5,_=>exact fun _ _ _ ⟨q0,d0,hv,q_0,q_1⟩ hb=>⟨q0,d0,hv,q_0.kept hb,q_1⟩
 | 6,_=>exact fun _ _ _ ⟨a2,n2,c2,k2,m2,e2,hv,q_0,q_1⟩ hb=>⟨a2,n2,c2,k2,m2,e2,hv,q_0.kept hb,q_1⟩
 | 7,_=>exact fun _ _ _ h _=>h
 | 8,_=>exact fun _ _ _ h _=>h
 | 9,_=>exact fun _ _ _ ⟨a3,n3,c3,k3,m3,e3,hv,q_0,q_1⟩ hb=>⟨a3,n3,c3,k3,m3,e3,hv,q_0.kept hb,q_1⟩
 | 10,_=>exact fun _ _ _ ⟨gr,hv,q_0,q_1⟩ hb=>⟨gr,hv,q_0.kept hb,q_1⟩
 | 11,_=>exact fun _ _ _ ⟨a0,n0,c0,k0,m0,e0,hv,q_0,q_1⟩ hb=>⟨a0,n0,c0,k0,m0,e0,hv,q_0.kept hb,q_1⟩
 | 12,_=>exact fun _ _ _ ⟨a0,n0,c0,k0,m0,e0,q_0,q_1,q_2⟩ hb=>⟨a0,n0,c0,k0,m0,e0,below_kept q_0 hb,q_1.kept hb,q_2⟩
 | 13,_=>exact fun _ _ _ q_0 hb=>below_kept q_0 hb
 | 14,_=>exact fun _ _ _ q_0 hb=>below_kept q_0 hb
 | k+15,hk=>omega
theorem l9pubr_st12 (y:Int × Int × Int)(L R G B:Nat){W W2:World}{cs:Array Value}{fr:Nat × Nat}(hg:W.heap[(G+1)]? = some (.cells cs 75 fr))(ht:Touch ((G+1)) ((G+1)+1) W W2)(k:Nat)(hk:k<15)(hne:k≠12)(hkill:12∉(l9pubr y L R G (B)).kill k)(v:Value)(hfact:(l9pubr y L R G (B)).fact k v W):(l9pubr y L R G (B)).fact k v W2:=by
 match k,hk,hne,hkill,hfact with
 | 0,_,_,_,hq=>exact hq
 | 1,_,_,_,hq=>exact hq
 | 2,_,_,_,⟨a1,n1,c1,k1,m1,e1,hv,q_0,q_1⟩=>exact ⟨a1,n1,c1,k1,m1,e1,hv,q_0.touched ht (by omega),q_1⟩
 | 3,_,_,_,hq=>exact hq
 | 4,_,_,_,hq=>exact hq
 | 5,_,_,_,⟨q0,d0,hv,q_0,q_1⟩=>exact ⟨q0,d0,hv,q_0.touched ht (by omega),q_1⟩
 | 6,_,_,_,⟨a2,n2,c2,k2,m2,e2,hv,q_0,q_1⟩=>exact ⟨a2,n2,c2,k2,m2,e2,hv,q_0.touched ht (by omega),q_1⟩
 | 7,_,_,_,hq=>exact hq
 | 8,_,_,_,hq=>exact hq
 | 9,_,_,_,⟨a3,n3,c3,k3,m3,e3,hv,q_0,q_1⟩=>exact ⟨a3,n3,c3,k3,m3,e3,hv,q_0.touched ht (by omega),q_1⟩
 | 10,_,_,_,⟨gr,hv,q_0,q_1⟩=>exact ⟨gr,hv,q_0.touched ht (by omega),q_1⟩
 | 11,_,_,_,⟨a0,n0,c0,k0,m0,e0,hv,q_0,q_1⟩=>exact ⟨a0,n0,c0,k0,m0,e0,hv,q_0.touched ht (by omega),q_1⟩
 | 12,_,hne,_,_=>exact absurd rfl hne
 | 13,_,_,_,q_0=>exact box_box q_0 hg (by decide) ht
 | 14,_,_,hkill,_=>exact absurd (List.Mem.head _) hkill
 | k+15,hk,_,_,_=>omega
theorem l9Pub_R (y:Int × Int × Int)(L:Nat)(w:World)(hLw:L≤w.heap.size)(hu:U64 y.2.1) :
  Calls Tryz.prog 86 #[.agg #[.int .i64 y.1,.int .u64 y.2.1,.int .i64 y.2.2]] w fun e w'=>ItR L w.heap.size 2 (kyI y) e w'∧Below w.heap.size w w':=by
 obtain ⟨w1,hw1⟩:∃ w1,w1=(w.alloc (.cells #[.int .i64 y.1,.int .u64 y.2.1,.int .i64 y.2.2] 41)).alloc (.cells #[.int .i64 0,.int .i64 0,.bool false,.slice none 0 0,.slice none 0 0] 75):=⟨_,rfl⟩
 have hbb:Below w.heap.size w w1:=by rw [hw1]; exact ((Below.refl _ _).alloc (Nat.le_refl _) _).alloc (by simp) _
 have HB1:Hid (_∧_):=two_blocks w (.cells #[.int .i64 y.1,.int .u64 y.2.1,.int .i64 y.2.2] 41) (.cells #[.int .i64 0,.int .i64 0,.bool false,.slice none 0 0,.slice none 0 0] 75)
 rw [← hw1] at HB1
 have hsz:w1.heap.size=w.heap.size+2:=by rw [hw1]; simp
 have HGB:L≤w.heap.size∧w.heap.size+1<w1.heap.size:=⟨hLw,by omega⟩
 have HLB:∀ W,Below w.heap.size w1 W→L≤W.heap.size:=fun W hW=>by have:=hW.size; omega
 have HBB:w.heap.size≤w1.heap.size:=hbb.size
 have HW:Hid (_=_):=hw1
 clear hw1
 go_enter Tryz.func86,Tryz.ntmps86
 go_upto_region 1 with fail
 rw [← HW.out]
 clear HW
 refine wp_region_ri (l9pubr y L w1.heap.size w.heap.size (w.heap.size)) [3,4,5,6,7,8,9,10,11,12,13,14] (w.heap.size) (fun a0=>a0.tmps.size=15∧aT a0 1=.pointer (some ⟨w.heap.size,0,none⟩)∧aT a0 2=.pointer (some ⟨(w.heap.size+1),0,none⟩)) (by kernel_rfl) rfl (by kernel_rfl) rfl ⟨rfl,rfl,rfl⟩ (l9pubr_stb y L w1.heap.size w.heap.size (w.heap.size)) ?_ ?_ ?_
 ·intro k hk hk2
  match k,hk,hk2 with
  | 13,_,_=>exact HB1.out.1
  | 14,_,_=>exact HB1.out.2
  | 0,hk,_=>exact absurd hk (by show ¬ (13≤0); omega)
  | 1,hk,_=>exact absurd hk (by show ¬ (13≤1); omega)
  | 2,hk,_=>exact absurd hk (by show ¬ (13≤2); omega)
  | 3,hk,_=>exact absurd hk (by show ¬ (13≤3); omega)
  | 4,hk,_=>exact absurd hk (by show ¬ (13≤4); omega)
  | 5,hk,_=>exact absurd hk (by show ¬ (13≤5); omega)
  | 6,hk,_=>exact absurd hk (by show ¬ (13≤6); omega)
  | 7,hk,_=>exact absurd hk (by show ¬ (13≤7); omega)
  | 8,hk,_=>exact absurd hk (by show ¬ (13≤8); omega)
  | 9,hk,_=>exact absurd hk (by show ¬ (13≤9); omega)
  | 10,hk,_=>exact absurd hk (by show ¬ (13≤10); omega)
  | 11,hk,_=>exact absurd hk (by show ¬ (13≤11); omega)
  | 12,hk,_=>exact absurd hk (by show ¬ (13≤12); omega)
  | k+15,_,hk2=>exact absurd hk2 (by show ¬ (k+15<15); omega)
 ·rintro a0 ⟨hz,g1,g2⟩
  refine StepsRI.cons ?_ (StepsRI.cons ?_ (StepsRI.cons ?_ (StepsRI.cons ?_ (StepsRI.cons ?_ (StepsRI.cons ?_ (StepsRI.cons ?_ (StepsRI.cons ?_ (StepsRI.cons ?_ (StepsRI.cons ?_ (StepsRI.cons ?_ (StepsRI.cons ?_ (StepsRI.cons ?_ (StepsRI.nil)))))))))))))
  ·intro lQ b W hI hUN hED KQ hKQ
   exact opw_field 41 1 0 rfl _ ((hI.fr.same 1 (by decide)).trans g1) _ (by kernel_rfl) (hKQ.out _ _ (hI.put 0 3 rfl rfl (by rw [hz]; decide) rfl hUN rfl HBB (l9pubr_stb y L w1.heap.size w.heap.size (w.heap.size)) (Below.refl _ _) rfl))
  ·intro lQ b W hI hUN hED KQ hKQ
   have f:=hI.got 0 (of_decide_eq_true rfl) (edge hED 0 (by kernel_rfl)) rfl
   have hg:=(hI.vot 13 (of_decide_eq_true rfl) (of_decide_eq_true rfl) rfl)
   have hc:W.cell? ⟨w.heap.size,0,none⟩=some (.int .i64 y.1):=(cell_of_row _ _ 0 _ _ (0,0) hg).trans rfl
   exact opw_load1 2 3 rfl _ f _ (by simp [Instr.loadAt,go_sem,hc]) (hKQ.out _ _ (hI.put 1 4 rfl rfl (by rw [hz]; decide) rfl hUN rfl HBB (l9pubr_stb y L w1.heap.size w.heap.size (w.heap.size)) (Below.refl _ _) rfl))
  ·intro lQ b W hI hUN hED KQ hKQ
   have f0:aT b 4=.int .i64 y.1:=hI.got 1 (of_decide_eq_true rfl) (edge hED 1 (by kernel_rfl)) rfl
   refine opw_call 81 #[.tmp 4] _ _ _ rfl Tryz.func81 (by kernel_rfl) rfl #[.int .i64 y.1] (by simp [ev,f0]) ?_
   refine (l9Num_R y.1 L W).mono ?_
   rintro r W2 ⟨⟨a1,n1,c1,k1,m1,e1,rfl,hzI⟩,hb⟩
   exact ⟨_,rfl,hKQ.out _ _ (hI.put 2 5 rfl rfl (by rw [hz]; decide) rfl hUN rfl HBB (l9pubr_stb y L w1.heap.size w.heap.size (w.heap.size)) hb ⟨a1,n1,c1,k1,m1,e1,rfl,((hzI.mono hI.bel.size).le (by decide)),HGB⟩)⟩
  ·intro lQ b W hI hUN hED KQ hKQ
   exact opw_field 41 1 1 rfl _ ((hI.fr.same 1 (by decide)).trans g1) _ (by kernel_rfl) (hKQ.out _ _ (hI.put 3 6 rfl rfl (by rw [hz]; decide) rfl hUN rfl HBB (l9pubr_stb y L w1.heap.size w.heap.size (w.heap.size)) (Below.refl _ _) rfl))
  ·intro lQ b W hI hUN hED KQ hKQ
   have f:=hI.got 3 (of_decide_eq_true rfl) (edge hED 3 (by kernel_rfl)) rfl
   have hg:=(hI.vot 13 (of_decide_eq_true rfl) (of_decide_eq_true rfl) rfl)
   have hc:W.cell? ⟨w.heap.size,1,none⟩=some (.int .u64 y.2.1):=(cell_of_row _ _ 1 _ _ (0,0) hg).trans rfl
   exact opw_load1 25 6 rfl _ f _ (by simp [Instr.loadAt,go_sem,hc]) (hKQ.out _ _ (hI.put 4 7 rfl rfl (by rw [hz]; decide) rfl hUN rfl HBB (l9pubr_stb y L w1.heap.size w.heap.size (w.heap.size)) (Below.refl _ _) rfl))
  ·intro lQ b W hI hUN hED KQ hKQ
   have f0:aT b 7=.int .u64 y.2.1:=hI.got 4 (of_decide_eq_true rfl) (edge hED 4 (by kernel_rfl)) rfl
   refine opw_call 138 #[.tmp 7] _ _ _ rfl Tryz.func138 (by kernel_rfl) rfl #[.int .u64 y.2.1] (by simp [ev,f0]) ?_
   refine (l1Eight_any y.2.1 W hu.1 hu.2).mono ?_
   rintro r W2 ⟨q0,d0,rfl,ho,hb⟩
   exact ⟨_,rfl,hKQ.out _ _ (hI.put 5 8 rfl rfl (by rw [hz]; decide) rfl hUN rfl HBB (l9pubr_stb y L w1.heap.size w.heap.size (w.heap.size)) hb ⟨q0,d0,rfl,⟨ho.mono hI.bel.size⟩,HGB⟩)⟩
  ·intro lQ b W hI hUN hED KQ hKQ
   obtain ⟨q0,d0,f0,o0,_⟩:=hI.got 5 (of_decide_eq_true rfl) (edge hED 5 (by kernel_rfl)) rfl
   replace f0:aT b 8=.slice q0 8 d0:=f0
   refine opw_call 83 #[.tmp 8] _ _ _ rfl Tryz.func83 (by kernel_rfl) rfl #[.slice q0 8 d0] (by simp [ev,f0]) ?_
   refine (l9Bytes_R q0 8 d0 (eightI y.2.1) L W o0.own.toRow o0.own.nil (by decide)).mono ?_
   rintro r W2 ⟨⟨a2,n2,c2,k2,m2,e2,rfl,hzI⟩,hb⟩
   exact ⟨_,rfl,hKQ.out _ _ (hI.put 6 9 rfl rfl (by rw [hz]; decide) rfl hUN rfl HBB (l9pubr_stb y L w1.heap.size w.heap.size (w.heap.size)) hb ⟨a2,n2,c2,k2,m2,e2,rfl,hzI.mono hI.bel.size,HGB⟩)⟩
  ·intro lQ b W hI hUN hED KQ hKQ
   exact opw_field 41 1 2 rfl _ ((hI.fr.same 1 (by decide)).trans g1) _ (by kernel_rfl) (hKQ.out _ _ (hI.put 7 10 rfl rfl (by rw [hz]; decide) rfl hUN rfl HBB (l9pubr_stb y L w1.heap.size w.heap.size (w.heap.size)) (Below.refl _ _) rfl))
  ·intro lQ b W hI hUN hED KQ hKQ
   have f:=hI.got 7 (of_decide_eq_true rfl) (edge hED 7 (by kernel_rfl)) rfl
   have hg:=(hI.vot 13 (of_decide_eq_true rfl) (of_decide_eq_true rfl) rfl)
   have hc:W.cell? ⟨w.heap.size,2,none⟩=some (.int .i64 y.2.2):=(cell_of_row _ _ 2 _ _ (0,0) hg).trans rfl
   exact opw_load1 2 10 rfl _ f _ (by simp [Instr.loadAt,go_sem,hc]) (hKQ.out _ _ (hI.put 8 11 rfl rfl (by rw [hz]; decide) rfl hUN rfl HBB (l9pubr_stb y L w1.heap.size w.heap.size (w.heap.size)) (Below.refl _ _) rfl))
  ·intro lQ b W hI hUN hED KQ hKQ
   have f0:aT b 11=.int .i64 y.2.2:=hI.got 8 (of_decide_eq_true rfl) (edge hED 8 (by kernel_rfl)) rfl
   refine opw_call 81 #[.tmp 11] _ _ _ rfl Tryz.func81 (by kernel_rfl) rfl #[.int .i64 y.2.2] (by simp [ev,f0]) ?_
   refine (l9Num_R y.2.2 L W).mono ?_
   rintro r W2 ⟨⟨a3,n3,c3,k3,m3,e3,rfl,hzI⟩,hb⟩
   exact ⟨_,rfl,hKQ.out _ _ (hI.put 9 12 rfl rfl (by rw [hz]; decide) rfl hUN rfl HBB (l9pubr_stb y L w1.heap.size w.heap.size (w.heap.size)) hb ⟨a3,n3,c3,k3,m3,e3,rfl,((hzI.mono hI.bel.size).le (by decide)),HGB⟩)⟩
  ·intro lQ b W hI hUN hED KQ hKQ
   obtain ⟨a1,n1,c1,k1,m1,e1,f1,o1,_⟩:=hI.got 2 (of_decide_eq_true rfl) (edge hED 2 (by kernel_rfl)) rfl
   replace f1:aT b 5=.agg #[.int .i64 (numI y.1).cls,.int .i64 (numI y.1).tag,.bool (numI y.1).cons,.slice a1 n1 c1,.slice k1 m1 e1]:=f1
   obtain ⟨a2,n2,c2,k2,m2,e2,f2,o2,_⟩:=hI.got 6 (of_decide_eq_true rfl) (edge hED 6 (by kernel_rfl)) rfl
   replace f2:aT b 9=.agg #[.int .i64 (bytI (eightI y.2.1)).cls,.int .i64 (bytI (eightI y.2.1)).tag,.bool (bytI (eightI y.2.1)).cons,.slice a2 n2 c2,.slice k2 m2 e2]:=f2
   obtain ⟨a3,n3,c3,k3,m3,e3,f3,o3,_⟩:=hI.got 9 (of_decide_eq_true rfl) (edge hED 9 (by kernel_rfl)) rfl
   replace f3:aT b 12=.agg #[.int .i64 (numI y.2.2).cls,.int .i64 (numI y.2.2).tag,.bool (numI y.2.2).cons,.slice a3 n3 c3,.slice k3 m3 e3]:=f3
   refine opw_buildSliceT _ 3 _ rfl #[(0,.agg #[.int .i64 (numI y.1).cls,.int .i64 (numI y.1).tag,.bool (numI y.1).cons,.slice a1 n1 c1,.slice k1 m1 e1]),(1,.agg #[.int .i64 (bytI (eightI y.2.1)).cls,.int .i64 (bytI (eightI y.2.1)).tag,.bool (bytI (eightI y.2.1)).cons,.slice a2 n2 c2,.slice k2 m2 e2]),(2,.agg #[.int .i64 (numI y.2.2).cls,.int .i64 (numI y.2.2).tag,.bool (numI y.2.2).cons,.slice a3 n3 c3,.slice k3 m3 e3])] (by simp [ev,f1,f2,f3]) (.slice (some ⟨W.heap.size,0,none⟩) 3 3) (W.alloc (.cells #[.int .i64 (numI y.1).cls,.int .i64 (numI y.1).tag,.bool (numI y.1).cons,.slice a1 n1 c1,.slice k1 m1 e1,.int .i64 (bytI (eightI y.2.1)).cls,.int .i64 (bytI (eightI y.2.1)).tag,.bool (bytI (eightI y.2.1)).cons,.slice a2 n2 c2,.slice k2 m2 e2,.int .i64 (numI y.2.2).cls,.int .i64 (numI y.2.2).tag,.bool (numI y.2.2).cons,.slice a3 n3 c3,.slice k3 m3 e3] 75)) (by kernel_rfl) ?_
   exact hKQ.out _ _ (hI.put 10 13 rfl rfl (by rw [hz]; decide) rfl hUN rfl HBB (l9pubr_stb y L w1.heap.size w.heap.size (w.heap.size)) ((Below.refl _ _).alloc (Nat.le_refl _) _) ⟨W.heap.size,rfl,kidZ_n3 hI.bel.size o1 o2 o3,HGB⟩)
  ·intro lQ b W hI hUN hED KQ hKQ
   obtain ⟨gr,f0,o0,_⟩:=hI.got 10 (of_decide_eq_true rfl) (edge hED 10 (by kernel_rfl)) rfl
   replace f0:aT b 13=.slice (some ⟨gr,0,none⟩) 3 3:=f0
   refine opw_call 80 #[.tmp 13] _ _ _ rfl Tryz.func80 (by kernel_rfl) rfl #[.slice (some ⟨gr,0,none⟩) 3 3] (by simp [ev,f0]) ?_
   refine (l9Struct_R o0 rfl).mono ?_
   rintro r W2 ⟨⟨a0,n0,c0,k0,m0,e0,rfl,hzI⟩,hb⟩
   exact ⟨_,rfl,hKQ.out _ _ (hI.put 11 14 rfl rfl (by rw [hz]; decide) rfl hUN rfl HBB (l9pubr_stb y L w1.heap.size w.heap.size (w.heap.size)) hb ⟨a0,n0,c0,k0,m0,e0,rfl,hzI,HGB⟩)⟩
  ·intro lQ b W hI hUN hED KQ hKQ
   have hgb:=(hI.vot1 14 12 (of_decide_eq_true rfl) (of_decide_eq_true rfl) hUN rfl)
   have fb:=((hI.fr.same 2 (by decide)).trans g2)
   have f:=hI.got 11 (of_decide_eq_true rfl) (edge hED 11 (by kernel_rfl)) rfl
   obtain ⟨a0,n0,c0,k0,m0,e0,f,o_0,o_1⟩:=f
   refine wp_store_row 75 _ _ rfl ((w.heap.size+1)) #[.int .i64 (kyI y).cls,.int .i64 (kyI y).tag,.bool (kyI y).cons,.slice a0 n0 c0,.slice k0 m0 e0] fb f 75 _ hgb (by kernel_rfl) rfl (by simp [Value.oneCell']) ?_
   have ht:=setRow_touch W ((w.heap.size+1)) #[.int .i64 (kyI y).cls,.int .i64 (kyI y).tag,.bool (kyI y).cons,.slice a0 n0 c0,.slice k0 m0 e0]
   exact hKQ.out _ _ (hI.store 12 (fun j hj=>by cases hj) (hI.bel.trans (ht.below (by first | exact HGE2 | omega) (Nat.le_trans HBB hI.bel.size))) (l9pubr_st12 y L w1.heap.size w.heap.size (w.heap.size) hgb ht) ⟨a0,n0,c0,k0,m0,e0,(setRow_heap W ((w.heap.size+1)) _ _ _ _ hgb),o_0.touched ht (by omega),o_1⟩)
 ·intro b W hf hb F
  obtain ⟨a0,n0,c0,k0,m0,e0,hbx,hz,_⟩:=F 12 (of_decide_eq_true rfl) rfl
  rw [hf.eq]
  simp only [puts,Act.put,List.setIfInBounds_toArray,List.set_cons_zero,List.set_cons_succ]
  clear hf F
  generalize aT b=AT
  clear b
  go_wp2
  try simp only [Exit.inBlock,Exit.then]
  exact bodyPost_ret (results_it rfl _ (w.heap.size+1) rfl _ _ _ _ _ _ hbx) rfl ⟨⟨a0,n0,c0,k0,m0,e0,rfl,hz.mono hbb.size⟩,hbb.trans hb⟩
theorem NumS_next (xs:List Int)(k:Nat)(h:k<xs.length):(xs.take (k+1)).map numI=(xs.take k).map numI++[numI (xs.getD k 0)]:=by
 rw [List.take_add_one,List.map_append]
 simp [h]
theorem l9NumList_R (a:Option Addr)(n c:Nat)(xs:List Int)(L:Nat)(w:World)(hLw:L≤w.heap.size)(h:Row64 w a n xs)(hn:n≤1000) :
  Calls Tryz.prog 88 #[.slice a n c] w fun e w'=>ItR L w.heap.size 2 (lstI (xs.map numI)) e w'∧Below w.heap.size w w':=by
 obtain ⟨i0,hi,hz0,hz1,hz2⟩:=info_parts Tryz.infoIt
 have hbx:=box5_below w
 have hsz:=box5_size w
 have HB5:Hid (_=_):=box5_new w
 obtain ⟨w1,hw1⟩:∃ w1,w1=box5 w:=⟨_,rfl⟩
 rw [← hw1] at hbx hsz HB5
 have HW:Hid (w1=w.alloc (.cells #[.int .i64 0,.int .i64 0,.bool false,.slice none 0 0,.slice none 0 0] 75)):=hw1
 have H0:Hid (Row64 w1 a n xs):=h.kept hbx
 have HLX:Hid (xs.length=n):=h.len
 have hbE:Below w1.heap.size w1 (w1.alloc (.cells #[] 75)):=(Below.refl _ _).alloc (Nat.le_refl _) _
 have HO0:Hid (OwnItZ 1 L w1.heap.size (w1.alloc (.cells #[] 75)) (some ⟨w1.heap.size,0,none⟩) 0 0 ((xs.take 0).map numI)):=ownItZ_empty 1 L w1
 have hszl:w.heap.size<w1.heap.size:=by omega
 clear h hw1 hsz
 go_enter Tryz.func88,Tryz.ntmps88
 go_upto_region 1 with fail
 rw [← HW.out]
 clear HW
 go_wp2
 go_loopw [3,4] (fun o i wr=>∃ (k:Nat) (ao:Option Addr) (cc:Nat),k≤n∧i=.int .i64 k∧o=.slice ao k cc∧Hid (OwnItZ 1 L w1.heap.size wr ao k cc ((xs.take k).map numI))∧Below w1.heap.size w1 wr) (fun _ i _=>n - (intOf i).toNat)
 case atStart=>exact ⟨0,_,0,Nat.zero_le _,rfl,rfl,HO0,hbE⟩
 case round =>
  obtain ⟨k,ao,cc,hk,rfl,rfl,HO,hbr⟩:=hrel
  have hws:=hbr.size
  by_cases hlt:k<n
  ·obtain ⟨b,off,rfl,hlb,e0⟩:=H0.out.get k hlt
   obtain ⟨y,hy⟩:∃ y,y=xs.getD k 0:=⟨_,rfl⟩
   rw [← hy] at e0
   obtain ⟨z,hz⟩:∃ z,z=numI y:=⟨_,rfl⟩
   have HXK:Hid ((xs.take (k+1)).map numI=(xs.take k).map numI++[z]):=by show _=_; rw [hz,hy]; exact NumS_next xs k (by rw [HLX.out]; exact hlt)
   have c0:=(hbr.cell (p:=⟨b,off+k,none⟩) hlb).trans e0
   have hkni:(k:Int)<(n:Int):=by omega
   have hbw:b<wr.heap.size:=by omega
   have HCON:Hid (Calls Tryz.prog 81 #[.int .i64 y] wr fun e w'=>ItR L wr.heap.size 1 z e w'∧Below wr.heap.size wr w'):=by rw [hz]; exact l9Num_R y L wr
   clear hy hz e0
   go_wp2_with fail
   refine HCON.out.mono ?_
   rintro e w2 ⟨⟨ab,nb,cb,ak,nk,ck,rfl,hit⟩,hb2⟩
   have B2:Below w1.heap.size w1 w2:=hbr.trans (hb2.mono hws)
   have hal:Below w2.heap.size w2 (w2.alloc (.cells #[.int .i64 z.cls,.int .i64 z.tag,.bool z.cons,.slice ab nb cb,.slice ak nk ck] 75)):=(Below.refl _ _).alloc (Nat.le_refl _) _
   have B6:Below w1.heap.size w1 (w2.alloc (.cells #[.int .i64 z.cls,.int .i64 z.tag,.bool z.cons,.slice ab nb cb,.slice ak nk ck] 75)):=B2.trans (hal.mono B2.size)
   have hs6:(w2.alloc (.cells #[.int .i64 z.cls,.int .i64 z.tag,.bool z.cons,.slice ab nb cb,.slice ak nk ck] 75)).heap.size=w2.heap.size+1:=by simp
   have hs2:=hb2.size
   have HQ3:Hid (OwnItZ 1 L w1.heap.size (w2.alloc (.cells #[.int .i64 z.cls,.int .i64 z.tag,.bool z.cons,.slice ab nb cb,.slice ak nk ck] 75)) ao k cc ((xs.take k).map numI)):=(HO.out.kept hb2).kept hal
   obtain ⟨vs,hrow⟩:=HQ3.out.row
   have HROW:Hid (_):=hrow
   have hown:∀ b,(Value.slice ao k cc).ownBlock=some b→w1.heap.size≤b∧b<wr.heap.size:=fun b hb=>by obtain ⟨vs0,hv0⟩:=HO.out.row; exact ⟨HO.out.2 b hb,(hv0.lt b hb).2⟩
   have HAPP:Hid (∀ g7 c7 w7,w7.ownsRow 0 75 5 (.slice (some ⟨g7,0,none⟩) (k+1) c7) (k+1) (vs++itc z ab nb cb ak nk ck)→(w2.alloc (.cells #[.int .i64 z.cls,.int .i64 z.tag,.bool z.cons,.slice ab nb cb,.slice ak nk ck] 75)).grownBy w7 (Value.slice ao k cc).ownBlock→((Value.slice ao k cc).ownBlock=some g7∨g7=w2.heap.size+1)→OwnItZ 1 L w1.heap.size w7 (some ⟨g7,0,none⟩) (k+1) c7 ((xs.take (k+1)).map numI)∧Below w1.heap.size w1 w7):=by
    intro g7 c7 w7 hv7 hg7 hl7
    have hit2:=hit.kept hal
    rw [HXK.out]
    refine ⟨HQ3.out.appended hit2.it (fun b hb=>⟨by have:=hb.1; omega,hb.2,fun e=>by have:=hown b e; have:=hb.1; omega⟩) (by omega) HROW.out hv7 hg7 (by rw [hs6]; exact hl7) B6.size,B6.grown hg7 (by have:=B6.size; omega) (fun kx hx=>HQ3.out.2 kx hx)⟩
   clear c0 hrow HO hb2 B2 hal hit HCON
   go_wp2_with (at_builtin; refine wpList_append_lies _ rfl (.tmp 12) (.tmp 18) 73 rfl 0 75 i0 _ 5 72 Tryz.underlying73 hi hz0 hz1 hz2 rfl (by decide) _ k vs rfl HROW.out ⟨w2.heap.size,0,none⟩ 1 1 [.int .i64 z.cls,.int .i64 z.tag,.bool z.cons,.slice ab nb cb,.slice ak nk ck] rfl rfl (World.news_of_block (heap_alloc_new w2 (.cells #[.int .i64 z.cls,.int .i64 z.tag,.bool z.cons,.slice ab nb cb,.slice ak nk ck] 75))) (by intro u hu; simp only [List.mem_cons,List.not_mem_nil,or_false] at hu; rcases hu with rfl | rfl | rfl | rfl | rfl <;> rfl) (by decide) (by unfold maxLen; omega) (by omega) (Nat.zero_le _) (w2.heap.size+1) (by simp) ?_; intro g7 c7 w7 hv7 hg7 hl7 hlt7; have HN7:=HAPP.out g7 c7 w7 hv7 hg7 hl7; have HO7:Hid (_):=HN7.1; have B7:=HN7.2; clear hv7 hg7 hl7 hlt7 HN7 HAPP HQ3 HROW)
   go_roundw
   case rel=>exact ⟨k+1,_,c7,by omega,by go_num,rfl,HO7,B7⟩
   case measure=>simp [intOf]; omega
  ·obtain rfl:k=n:=by omega
   have HX:Hid (xs.take k=xs):=by show _=_; rw [List.take_of_length_le (by rw [HLX.out]; exact Nat.le_refl _)]
   have hL9:ListZ L w1.heap.size 2 wr ao k (xs.map numI):=⟨by
    have:=HO.out.kids
    rw [HX.out] at this
    exact this⟩
   have HLL:Hid (Calls Tryz.prog 89 #[.slice ao k cc] wr fun e w'=>ItR L w1.heap.size 2 (lstI (xs.map numI)) e w'∧Below wr.heap.size wr w'):=l9List_R hL9
   clear hL9
   go_wp2_with fail
   refine HLL.out.mono ?_
   rintro e w2 ⟨⟨ab,nb,cb,ak,nk,ck,rfl,hit⟩,hb2⟩
   have HIT:Hid (_):=hit
   have B2:Below w1.heap.size w1 w2:=hbr.trans (hb2.mono hws)
   have h5:=below_kept HB5.out B2
   obtain ⟨_,q0,q1,q2,q3,q4,q5,q6,q7,q8,q9⟩:=Box5.of h5
   have H5:Hid (_=_):=h5
   have B3:Below w.heap.size w w2:=keepT hbx B2
   clear h5 hb2 hit HLL
   go_wp2_with fail
   try simp only [Exit.inBlock,Exit.then]
   have T:=put5_touch w2 w.heap.size (.int .i64 (lstI (xs.map numI)).cls) (.int .i64 (lstI (xs.map numI)).tag) (.bool (lstI (xs.map numI)).cons) (.slice ab nb cb) (.slice ak nk ck)
   exact bodyPost_ret (results_it rfl _ w.heap.size rfl _ _ _ _ _ _ (put5_heap H5.out _ _ _ _ _)) rfl ⟨⟨_,_,_,_,_,_,rfl,HIT.out.put hLw (by omega) _ _ _ _ _⟩,B3.trans (T.below (Nat.le_refl _) B3.size)⟩
open Go.RowKit
theorem markP_fr (lo hi:Nat)(a:Option Addr)(n cap k:Nat)(w:World)(h:FR 2 lo hi w a n)(hn:n≤1048576)(h0:0<k)(hk:k≤100000000000000000) :
  Calls Tryz.prog 116 #[.slice a n cap,.int .i64 k] w (MkF lo hi w k (2 * n)):=by
 have H0:Hid (FR 2 lo hi w a n):=h
 clear h
 go_enter Tryz.func116,Tryz.ntmps116
 go_wp2
 go_loopw [1,5] (fun kk i wr=>∃ j K:Nat,j≤n∧k≤K∧K≤k+2 * j∧i=.int .i64 j∧kk=.int .i64 K∧Hid (Touch lo hi w wr)∧Hid (Sh w wr)) (fun _ i _=>n - (intOf i).toNat)
 case atStart=>exact ⟨0,k,Nat.zero_le _,Nat.le_refl _,by omega,rfl,rfl,Touch.of_below (Below.refl _ _),Sh.refl _⟩
 case round =>
  obtain ⟨j,K,hj,hK0,hK,rfl,rfl,HT0,HS0⟩:=hrel
  by_cases hlt:j<n
  ·obtain ⟨g,rfl,hga,hgb,hgl,hc⟩:=(H0.out.sh HS0.out).at_ (by omega)
   have hlti:(j:Int)<(n:Int):=by omega
   have hKb:K≤100000000000000000+2 * 1048576:=by
    have:2 * j≤2 * 1048576:=Nat.mul_le_mul_left _ (by omega)
    omega
   have HKK:Hid (k≤K∧K≤k+2 * j):=⟨hK0,hK⟩
   have hKp:0<K:=by omega
   clear hK hK0
   obtain ⟨⟨y,hy⟩,hf,hs⟩:=hc (j * 2) (by omega)
   obtain ⟨w1,hw1⟩:∃ W,W=wr.setCell ⟨g,j * 2,none⟩ (.int .i64 ((K:Int))):=⟨_,rfl⟩
   have HT1:Hid (Touch lo hi w w1):=by show Touch _ _ _ _; rw [hw1]; exact HT0.out.trans (touch_setF _ g (j * 2) _ hga hgb)
   have HS1:Hid (Sh w w1):=by show Sh _ _; rw [hw1]; exact HS0.out.trans (hs _ (isF.i _ _))
   have HW1:Hid (w1=wr.setCell ⟨g,j * 2,none⟩ (.int .i64 ((K:Int)))):=hw1
   clear hc hs HT0 HS0 hw1
   go_upto_region 6 with fail
   rw [← HW1.out]
   clear HW1 hy hf hgl
   have HM1:Hid (∀ W,Calls Tryz.prog 117 #[.int .i64 ((K:Int)+1)] W fun e w'=>(∃ t,e=.returned (.string t))∧Below W.heap.size W w'):=fun W=>by
    have h:=markText_any (K+1) W (by omega) (by omega)
    rw [show ((K+1:Nat):Int)=(K:Int)+1 from by omega] at h
    exact h.mono fun e w' ⟨h1,h2⟩=>⟨⟨_,h1⟩,h2⟩
   go_wp2_with fail
   refine (HM1.out _).mono ?_
   rintro e wt1 ⟨⟨tx1,rfl⟩,hbt1⟩
   have HTt1:Hid (Touch lo hi w wt1):=HT1.out.trans (Touch.of_below hbt1)
   have HSt1:Hid (Sh w wt1):=HS1.out.trans (Sh.below hbt1)
   clear hbt1 HM1 HT1 HS1
   obtain ⟨gt1,et1,hgat1,hgbt1,hglt1,hct1⟩:=(H0.out.sh HSt1.out).at_ (by omega)
   simp only [Option.some.injEq,Addr.mk.injEq,and_true] at et1
   subst et1
   obtain ⟨⟨yt1,hyt1⟩,hft1,hst1⟩:=hct1 (j * 2+1) (by omega)
   have HTF:Hid (∀ u,isF u→Touch lo hi w (wt1.setCell ⟨g,j * 2+1,none⟩ u)):=fun u _=>HTt1.out.trans (touch_setF _ g (j * 2+1) _ hga hgb)
   have HSF:Hid (∀ u,isF u→Sh w (wt1.setCell ⟨g,j * 2+1,none⟩ u)):=fun u hu=>HSt1.out.trans (hst1 u hu)
   clear hct1 hst1 HTt1 HSt1
   go_wp2
   go_roundw
   case rel=>exact ⟨j+1,K+1+1,by omega,by have:=HKK.out.1; omega,by have:=HKK.out.2; omega,by go_num,by go_num,HTF.out _ (isF.s _),HSF.out _ (isF.s _)⟩
   case measure=>simp [intOf]; omega
  ·obtain rfl:j=n:=by omega
   have hge:¬ ((j:Int)<(j:Int)):=by omega
   have HKK:Hid (k≤K∧K≤k+2 * j):=⟨hK0,hK⟩
   clear hK hK0
   go_wp2
   go_ret
   exact ⟨K,HKK.out.1,HKK.out.2,rfl,HT0.out,HS0.out⟩
theorem markG_nr (lo hi:Nat)(a:Option Addr)(n cap k:Nat)(w:World)(h:NR 5 4 2 lo hi w a n)(hn:n≤1048576)(h0:0<k)(hk:k≤10000000000000000) :
  Calls Tryz.prog 54 #[.slice a n cap,.int .i64 k] w (MkF lo hi w k (2097156 * n)):=by
 have H0:Hid (NR 5 4 2 lo hi w a n):=h
 clear h
 go_enter Tryz.func54,Tryz.ntmps54
 go_wp2
 go_loopw [1,5] (fun kk i wr=>∃ j K:Nat,j≤n∧k≤K∧K≤k+2097156 * j∧i=.int .i64 j∧kk=.int .i64 K∧Hid (Touch lo hi w wr)∧Hid (Sh w wr)) (fun _ i _=>n - (intOf i).toNat)
 case atStart=>exact ⟨0,k,Nat.zero_le _,Nat.le_refl _,by omega,rfl,rfl,Touch.of_below (Below.refl _ _),Sh.refl _⟩
 case round =>
  obtain ⟨j,K,hj,hK0,hK,rfl,rfl,HT0,HS0⟩:=hrel
  by_cases hlt:j<n
  ·obtain ⟨g,z,m,c,rfl,hga,hgb,hgl,hc,hsl,hm,hr⟩:=(H0.out.sh HS0.out).at_ j hlt
   have hlti:(j:Int)<(n:Int):=by omega
   have hKb:K≤10000000000000000+2097156 * 1048576:=by
    have:2097156 * j≤2097156 * 1048576:=Nat.mul_le_mul_left _ (by omega)
    omega
   have HKK:Hid (k≤K∧K≤k+2097156 * j):=⟨hK0,hK⟩
   have hKp:0<K:=by omega
   clear hK hK0
   have hq:=hc 0 (by decide) (by decide)
   simp only [Nat.add_zero] at hq
   obtain ⟨⟨y,hy⟩,hf,hs⟩:=hq
   obtain ⟨w1,hw1⟩:∃ W,W=wr.setCell ⟨g,j * 5,none⟩ (.int .i64 ((K:Int))):=⟨_,rfl⟩
   have HT1:Hid (Touch lo hi w w1):=by show Touch _ _ _ _; rw [hw1]; exact HT0.out.trans (touch_setF _ g (j * 5) _ hga hgb)
   have HS1:Hid (Sh w w1):=by show Sh _ _; rw [hw1]; exact HS0.out.trans (hs _ (isF.i _ _))
   have HW1:Hid (w1=wr.setCell ⟨g,j * 5,none⟩ (.int .i64 ((K:Int)))):=hw1
   clear hc hsl hm hr hs HT0 HS0 hw1
   go_upto_region 6 with fail
   rw [← HW1.out]
   clear HW1 hy hf hgl
   have HM1:Hid (∀ W,Calls Tryz.prog 117 #[.int .i64 ((K:Int)+1)] W fun e w'=>(∃ t,e=.returned (.string t))∧Below W.heap.size W w'):=fun W=>by
    have h:=markText_any (K+1) W (by omega) (by omega)
    rw [show ((K+1:Nat):Int)=(K:Int)+1 from by omega] at h
    exact h.mono fun e w' ⟨h1,h2⟩=>⟨⟨_,h1⟩,h2⟩
   go_wp2_with fail
   refine (HM1.out _).mono ?_
   rintro e wt1 ⟨⟨tx1,rfl⟩,hbt1⟩
   have HTt1:Hid (Touch lo hi w wt1):=HT1.out.trans (Touch.of_below hbt1)
   have HSt1:Hid (Sh w wt1):=HS1.out.trans (Sh.below hbt1)
   clear hbt1 HM1 HT1 HS1
   obtain ⟨gt1,zt1,mt1,ct1,et1,hgat1,hgbt1,hglt1,hct1,hslt1,hmt1,hrt1⟩:=(H0.out.sh HSt1.out).at_ j hlt
   simp only [Option.some.injEq,Addr.mk.injEq,and_true] at et1
   subst et1
   have hqt1:=hct1 1 (by decide) (by decide)
   obtain ⟨⟨yt1,hyt1⟩,hft1,hst1⟩:=hqt1
   obtain ⟨w2,hw2⟩:∃ W,W=wt1.setCell ⟨g,j * 5+1,none⟩ (.string tx1):=⟨_,rfl⟩
   have HT2:Hid (Touch lo hi w w2):=by show Touch _ _ _ _; rw [hw2]; exact HTt1.out.trans (touch_setF _ g (j * 5+1) _ hga hgb)
   have HS2:Hid (Sh w w2):=by show Sh _ _; rw [hw2]; exact HSt1.out.trans (hst1 _ (isF.s _))
   have HW2:Hid (w2=wt1.setCell ⟨g,j * 5+1,none⟩ (.string tx1)):=hw2
   clear hct1 hslt1 hmt1 hrt1 hst1 HTt1 HSt1 hw2
   go_upto_region 8 with fail
   rw [← HW2.out]
   clear HW2 hyt1 hft1 hglt1
   obtain ⟨gn2,zn2,mn2,cn2,en2,hgan2,hgbn2,hgln2,hcn2,hsln2,hmn2,hrn2⟩:=(H0.out.sh HS2.out).at_ j hlt
   simp only [Option.some.injEq,Addr.mk.injEq,and_true] at en2
   subst en2
   have hqn2:=hcn2 2 (by decide) (by decide)
   obtain ⟨⟨yn2,hyn2⟩,hfn2,hsn2⟩:=hqn2
   obtain ⟨w3,hw3⟩:∃ W,W=w2.setCell ⟨g,j * 5+2,none⟩ (.int .i64 ((K:Int)+1+1)):=⟨_,rfl⟩
   have HT3:Hid (Touch lo hi w w3):=by show Touch _ _ _ _; rw [hw3]; exact HT2.out.trans (touch_setF _ g (j * 5+2) _ hga hgb)
   have HS3:Hid (Sh w w3):=by show Sh _ _; rw [hw3]; exact HS2.out.trans (hsn2 _ (isF.i _ _))
   have HW3:Hid (w3=w2.setCell ⟨g,j * 5+2,none⟩ (.int .i64 ((K:Int)+1+1))):=hw3
   clear hcn2 hsln2 hmn2 hrn2 hsn2 HT2 HS2 hw3
   go_upto_region 10 with fail
   rw [← HW3.out]
   clear HW3 hyn2 hfn2 hgln2
   obtain ⟨gn3,zn3,mn3,cn3,en3,hgan3,hgbn3,hgln3,hcn3,hsln3,hmn3,hrn3⟩:=(H0.out.sh HS3.out).at_ j hlt
   simp only [Option.some.injEq,Addr.mk.injEq,and_true] at en3
   subst en3
   have hqn3:=hcn3 3 (by decide) (by decide)
   obtain ⟨⟨yn3,hyn3⟩,hfn3,hsn3⟩:=hqn3
   obtain ⟨w4,hw4⟩:∃ W,W=w3.setCell ⟨g,j * 5+3,none⟩ (.int .i64 ((K:Int)+1+1+1)):=⟨_,rfl⟩
   have HT4:Hid (Touch lo hi w w4):=by show Touch _ _ _ _; rw [hw4]; exact HT3.out.trans (touch_setF _ g (j * 5+3) _ hga hgb)
   have HS4:Hid (Sh w w4):=by show Sh _ _; rw [hw4]; exact HS3.out.trans (hsn3 _ (isF.i _ _))
   have HW4:Hid (w4=w3.setCell ⟨g,j * 5+3,none⟩ (.int .i64 ((K:Int)+1+1+1))):=hw4
   clear hcn3 hsln3 hmn3 hrn3 hsn3 HT3 HS3 hw4
   go_upto_region 12 with fail
   rw [← HW4.out]
   clear HW4 hyn3 hfn3 hgln3
   obtain ⟨gq,zq,mq,cq,eq,hgaq,hgbq,hglq,hcq,hslq,hmq,hrq⟩:=(H0.out.sh HS4.out).at_ j hlt
   simp only [Option.some.injEq,Addr.mk.injEq,and_true] at eq
   subst eq
   have HRI:Hid (FR 2 lo hi w4 zq mq):=hrq
   clear hcq hrq
   go_wp2_with fail
   refine ((show Calls Tryz.prog 116 #[.slice zq mq cq,.int .i64 ((K:Int)+1+1+1+1)] _ (MkF lo hi _ (K+4) (2 * mq)) from by have h:=markP_fr lo hi zq mq cq (K+4) _ HRI.out hmq (by omega) (by omega); rw [show ((K+4:Nat):Int)=(K:Int)+1+1+1+1 from by omega] at h; exact h)).mono ?_
   rintro e wz ⟨KZ,hz0,hz1,rfl,htz,hsz⟩
   have HTZ:Hid (Touch lo hi w wz):=HT4.out.trans htz
   have HSZ:Hid (Sh w wz):=HS4.out.trans hsz
   have hKZ0:k≤KZ:=by have:=HKK.out.1; omega
   have hKZ:KZ≤k+2097156 * (j+1):=by have:=HKK.out.2; rw [Nat.mul_succ,← Nat.add_assoc]; omega
   clear hslq htz hsz HT4 HS4 HRI hglq hz0 hz1
   go_wp2
   go_roundw
   case rel=>exact ⟨j+1,KZ,by omega,hKZ0,hKZ,by go_num,rfl,HTZ,HSZ⟩
   case measure=>simp [intOf]; omega
  ·obtain rfl:j=n:=by omega
   have hge:¬ ((j:Int)<(j:Int)):=by omega
   have HKK:Hid (k≤K∧K≤k+2097156 * j):=⟨hK0,hK⟩
   clear hK hK0
   go_wp2
   go_ret
   exact ⟨K,HKK.out.1,HKK.out.2,rfl,HT0.out,HS0.out⟩
theorem markX_nr (lo hi:Nat)(a:Option Addr)(n cap k:Nat)(w:World)(h:NR 3 2 1 lo hi w a n)(hn:n≤1048576)(h0:0<k)(hk:k≤10000000000000000) :
  Calls Tryz.prog 57 #[.slice a n cap,.int .i64 k] w (MkF lo hi w k (1048578 * n)):=by
 have H0:Hid (NR 3 2 1 lo hi w a n):=h
 clear h
 go_enter Tryz.func57,Tryz.ntmps57
 go_wp2
 go_loopw [1,5] (fun kk i wr=>∃ j K:Nat,j≤n∧k≤K∧K≤k+1048578 * j∧i=.int .i64 j∧kk=.int .i64 K∧Hid (Touch lo hi w wr)∧Hid (Sh w wr)) (fun _ i _=>n - (intOf i).toNat)
 case atStart=>exact ⟨0,k,Nat.zero_le _,Nat.le_refl _,by omega,rfl,rfl,Touch.of_below (Below.refl _ _),Sh.refl _⟩
 case round =>
  obtain ⟨j,K,hj,hK0,hK,rfl,rfl,HT0,HS0⟩:=hrel
  by_cases hlt:j<n
  ·obtain ⟨g,z,m,c,rfl,hga,hgb,hgl,hc,hsl,hm,hr⟩:=(H0.out.sh HS0.out).at_ j hlt
   have hlti:(j:Int)<(n:Int):=by omega
   have hKb:K≤10000000000000000+1048578 * 1048576:=by
    have:1048578 * j≤1048578 * 1048576:=Nat.mul_le_mul_left _ (by omega)
    omega
   have HKK:Hid (k≤K∧K≤k+1048578 * j):=⟨hK0,hK⟩
   have hKp:0<K:=by omega
   clear hK hK0
   have hq:=hc 0 (by decide) (by decide)
   simp only [Nat.add_zero] at hq
   obtain ⟨⟨y,hy⟩,hf,hs⟩:=hq
   obtain ⟨w1,hw1⟩:∃ W,W=wr.setCell ⟨g,j * 3,none⟩ (.int .i64 ((K:Int))):=⟨_,rfl⟩
   have HT1:Hid (Touch lo hi w w1):=by show Touch _ _ _ _; rw [hw1]; exact HT0.out.trans (touch_setF _ g (j * 3) _ hga hgb)
   have HS1:Hid (Sh w w1):=by show Sh _ _; rw [hw1]; exact HS0.out.trans (hs _ (isF.i _ _))
   have HW1:Hid (w1=wr.setCell ⟨g,j * 3,none⟩ (.int .i64 ((K:Int)))):=hw1
   clear hc hsl hm hr hs HT0 HS0 hw1
   go_upto_region 6 with fail
   rw [← HW1.out]
   clear HW1 hy hf hgl
   obtain ⟨gn1,zn1,mn1,cn1,en1,hgan1,hgbn1,hgln1,hcn1,hsln1,hmn1,hrn1⟩:=(H0.out.sh HS1.out).at_ j hlt
   simp only [Option.some.injEq,Addr.mk.injEq,and_true] at en1
   subst en1
   have hqn1:=hcn1 1 (by decide) (by decide)
   obtain ⟨⟨yn1,hyn1⟩,hfn1,hsn1⟩:=hqn1
   obtain ⟨bb1,hbb1⟩:∃ bb:Bool,bb=(((K:Int)+1) % 3 == 0):=⟨_,rfl⟩
   have hre1:IntKind.i64.wrap (((K:Int)+1).tmod 3)=((K:Int)+1) % 3:=by
    rw [Int.tmod_eq_emod_of_nonneg (by omega)]
    exact wrapSH _ (by omega) (by omega)
   have hbe1:(((K:Int)+1) % 3 == 0)=bb1:=hbb1.symm
   clear hbb1
   obtain ⟨w2,hw2⟩:∃ W,W=w1.setCell ⟨g,j * 3+1,none⟩ (.bool bb1):=⟨_,rfl⟩
   have HT2:Hid (Touch lo hi w w2):=by show Touch _ _ _ _; rw [hw2]; exact HT1.out.trans (touch_setF _ g (j * 3+1) _ hga hgb)
   have HS2:Hid (Sh w w2):=by show Sh _ _; rw [hw2]; exact HS1.out.trans (hsn1 _ (isF.b _))
   have HW2:Hid (w2=w1.setCell ⟨g,j * 3+1,none⟩ (.bool bb1)):=hw2
   clear hcn1 hsln1 hmn1 hrn1 hsn1 HT1 HS1 hw2
   go_upto_region 8 with fail
   rw [← HW2.out]
   clear HW2 hyn1 hfn1 hgln1
   obtain ⟨gq,zq,mq,cq,eq,hgaq,hgbq,hglq,hcq,hslq,hmq,hrq⟩:=(H0.out.sh HS2.out).at_ j hlt
   simp only [Option.some.injEq,Addr.mk.injEq,and_true] at eq
   subst eq
   have HRI:Hid (FR 1 lo hi w2 zq mq):=hrq
   clear hcq hrq
   go_wp2_with fail
   refine ((show Calls Tryz.prog 15 #[.slice zq mq cq,.int .i64 ((K:Int)+1+1)] _ (MkF lo hi _ (K+2) (1 * mq)) from by have h:=markB_fr lo hi zq mq cq (K+2) _ HRI.out hmq (by omega); rw [show ((K+2:Nat):Int)=(K:Int)+1+1 from by omega] at h; exact h)).mono ?_
   rintro e wz ⟨KZ,hz0,hz1,rfl,htz,hsz⟩
   have HTZ:Hid (Touch lo hi w wz):=HT2.out.trans htz
   have HSZ:Hid (Sh w wz):=HS2.out.trans hsz
   have hKZ0:k≤KZ:=by have:=HKK.out.1; omega
   have hKZ:KZ≤k+1048578 * (j+1):=by have:=HKK.out.2; rw [Nat.mul_succ,← Nat.add_assoc]; omega
   clear hslq htz hsz HT2 HS2 HRI hglq hz0 hz1
   go_wp2
   go_roundw
   case rel=>exact ⟨j+1,KZ,by omega,hKZ0,hKZ,by go_num,rfl,HTZ,HSZ⟩
   case measure=>simp [intOf]; omega
  ·obtain rfl:j=n:=by omega
   have hge:¬ ((j:Int)<(j:Int)):=by omega
   have HKK:Hid (k≤K∧K≤k+1048578 * j):=⟨hK0,hK⟩
   clear hK hK0
   go_wp2
   go_ret
   exact ⟨K,HKK.out.1,HKK.out.2,rfl,HT0.out,HS0.out⟩
theorem markN_fr (lo hi:Nat)(a:Option Addr)(n cap k:Nat)(w:World)(h:FR 2 lo hi w a n)(hn:n≤1048576)(h0:0<k)(hk:k≤10000000000000000) :
  Calls Tryz.prog 53 #[.agg #[.slice a n cap],.int .i64 k] w (MkF lo hi w k (2 * n)):=by
 obtain ⟨w0,hw0⟩:∃ w0,w0=w.alloc (.cells #[.slice a n cap] 40):=⟨_,rfl⟩
 have hb0:Below w.heap.size w w0:=by rw [hw0]; exact (Below.refl _ _).alloc (Nat.le_refl _) _
 have HT0:Hid (Touch lo hi w w0):=Touch.of_below hb0
 have HS0:Hid (Sh w w0):=Sh.below hb0
 have x0:w0.cell? ⟨w.heap.size,0,none⟩=some (.slice a n cap):=by rw [hw0]; exact (cell_of_row _ _ 0 _ _ (0,0) (heap_alloc_new w _)).trans rfl
 have HM:Hid (Calls Tryz.prog 116 #[.slice a n cap,.int .i64 k] w0 (MkF lo hi w0 k (2 * n))):=markP_fr lo hi a n cap k w0 (h.sh HS0.out) hn h0 (by omega)
 clear h hb0
 go_enter Tryz.func53,Tryz.ntmps53
 go_upto_region 1 with fail
 rw [← hw0]
 clear hw0
 go_wp2_with fail
 refine HM.out.mono ?_
 rintro e w1 ⟨K,hk0,hk1,rfl,ht,hs⟩
 have HT1:Hid (Touch lo hi w w1):=HT0.out.trans ht
 have HS1:Hid (Sh w w1):=HS0.out.trans hs
 clear x0 ht hs
 go_wp2
 go_ret
 exact ⟨K,hk0,hk1,rfl,HT1.out,HS1.out⟩
end Go.Proofs.YtmdfbnlgfhjnoaaGreatDoor
