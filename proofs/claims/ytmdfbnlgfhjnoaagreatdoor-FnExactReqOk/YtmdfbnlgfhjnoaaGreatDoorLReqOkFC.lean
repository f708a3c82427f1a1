import Derived.Test.YtmdfbnlgfhjnoaaGreatDoorFC48
set_option maxRecDepth 10000
set_option maxHeartbeats 8000000
set_option linter.unusedVariables false
namespace Go.Proofs.YtmdfbnlgfhjnoaaGreatDoor
open Go.RowKit
theorem infoSizeQ9:(Tryz.prog.info? 62).map (·.size)=some 6:=by kernel_rfl
theorem infoSizeQL9:(Tryz.prog.info? 58).map (·.size)=some 6:=by kernel_rfl
theorem opw_not {P:Program}{Q:Exit→Act→World→Prop}{o:Oper}{a:Act}{w:World}{K:Act→World→Prop}(t x:Nat)(ho:o.op=.unOp .not t (.tmp x))(p:Bool)(hx:aT a x=.bool p)(h:K (a.put o.dst (.bool (!p))) w):o.wp P a w K Q:=by
 refine opw_value (.bool (!p)) ?_ h
 have hx':a.eval (.tmp x)=.bool p:=hx
 unfold execOp
 simp only [ho,hx']
 simp [go_sem]
def lq10 (s t:RQS)(x:RQ)(gx G B:Nat):RSpec where
 m:=5
 n:=7
 slots:=[22,23,24,25,26,100005,100006]
 kills:=[[],[],[],[],[],[],[]]
 pres:=[[],[],[],[],[],[],[]]
 fact:=fun k v w=>match k with
  | 0=>v=.agg #[.slice t.a1 t.n1 t.c1,.slice t.a2 t.n2 t.c2,.int .i64 x.key.1,.int .u64 x.key.2.1,.int .i64 x.key.2.2,.slice t.a3 t.n3 t.c3]
  | 1=>v=.agg #[.slice s.a1 s.n1 s.c1,.slice s.a2 s.n2 s.c2,.int .i64 x.key.1,.int .u64 x.key.2.1,.int .i64 x.key.2.2,.slice s.a3 s.n3 s.c3]
  | 2=>∃ (u:RQS),v=RQv u x∧RQR w u x
  | 3=>v=.bool true
  | 4=>v=.bool false
  | 5=>w.heap[gx]? = some (.cells #[.slice t.a1 t.n1 t.c1,.slice t.a2 t.n2 t.c2,.int .i64 x.key.1,.int .u64 x.key.2.1,.int .i64 x.key.2.2,.slice t.a3 t.n3 t.c3] 62 (0,0))
  | _=>w.heap[G]? = some (.cells #[.slice s.a1 s.n1 s.c1,.slice s.a2 s.n2 s.c2,.int .i64 x.key.1,.int .u64 x.key.2.1,.int .i64 x.key.2.2,.slice s.a3 s.n3 s.c3] 58 (0,0))
theorem lq10_stb (s t:RQS)(x:RQ)(gx G B:Nat)(k:Nat)(hk:k<7):StB ((lq10 s t x gx G (B)).fact k):=by
 match k,hk with
 | 0,_=>exact fun _ _ _ h _=>h
 | 1,_=>exact fun _ _ _ h _=>h
 | 2,_=>exact fun _ _ _ ⟨u,hv,q_0⟩ hb=>⟨u,hv,q_0.kept hb⟩
 | 3,_=>exact fun _ _ _ h _=>h
 | 4,_=>exact fun _ _ _ h _=>h
 | 5,_=>exact fun _ _ _ q_0 hb=>below_kept q_0 hb
 | 6,_=>exact fun _ _ _ q_0 hb=>below_kept q_0 hb
 | k+7,hk=>omega
theorem lawReqOk_walk (s:RQS)(x:RQ)(w:World)(hm:MaxW w)(hu:U64 x.key.2.1)(h:RQR w s x) :
  Calls Tryz.prog 7 #[RQv s x] w fun e w'=>e=.returned (.bool true)∧Below w.heap.size w w':=by
 have HK:Hid (RQR w s x):=h
 have HM:Hid (∀ W,Below w.heap.size w W→MaxW W):=fun W hW=>hm.kept hW
 have HU:Hid (U64 x.key.2.1):=hu
 clear h hm hu
 show Calls Tryz.prog 7 #[.agg #[.slice s.a1 s.n1 s.c1,.slice s.a2 s.n2 s.c2,.int .i64 x.key.1,.int .u64 x.key.2.1,.int .i64 x.key.2.2,.slice s.a3 s.n3 s.c3]] w _
 obtain ⟨w0,hw0⟩:∃ w0,w0=w.alloc (.cells #[.slice s.a1 s.n1 s.c1,.slice s.a2 s.n2 s.c2,.int .i64 x.key.1,.int .u64 x.key.2.1,.int .i64 x.key.2.2,.slice s.a3 s.n3 s.c3] 58):=⟨_,rfl⟩
 have B0:Hid (Below w.heap.size w w0):=by show Below _ _ _; rw [hw0]; exact (Below.refl _ _).alloc (Nat.le_refl _) _
 have L0:Hid (w0.heap[w.heap.size]? = some (.cells #[.slice s.a1 s.n1 s.c1,.slice s.a2 s.n2 s.c2,.int .i64 x.key.1,.int .u64 x.key.2.1,.int .i64 x.key.2.2,.slice s.a3 s.n3 s.c3] 58 (0,0))):=by show _=_; rw [hw0]; exact heap_alloc_new w _
 have HSZ:Hid (∀ W,Below w.heap.size w W→Calls Tryz.prog 24 #[.agg #[.slice s.a1 s.n1 s.c1,.slice s.a2 s.n2 s.c2,.int .i64 x.key.1,.int .u64 x.key.2.1,.int .i64 x.key.2.2,.slice s.a3 s.n3 s.c3],.int .i64 1048576] W fun e w'=>∃ r,e=.returned (.int .i64 r)∧(r<0∨(0≤r∧r≤1048576∧RQZ x))∧Below W.heap.size W w'):=fun W hW=>szReq_k s x 1048576 W (HK.out.kept hW) (by decide) (by decide)
 go_enter Tryz.func7,Tryz.ntmps7
 go_upto_region 1 with fail
 rw [← hw0]
 clear hw0
 go_wp2_with (first | (refine wpList_load_row rfl 58 _ rfl w.heap.size rfl 58 #[.slice s.a1 s.n1 s.c1,.slice s.a2 s.n2 s.c2,.int .i64 x.key.1,.int .u64 x.key.2.1,.int .i64 x.key.2.2,.slice s.a3 s.n3 s.c3] (0,0) _ L0.out Tryz.underlying58 rfl infoSizeQL9 ?_) | fail)
 refine (HSZ.out _ B0.out).mono ?_
 rintro e w1 ⟨r,rfl,hr,hb1⟩
 have B1:Hid (Below w.heap.size w w1):=B0.out.trans (hb1.mono B0.out.size)
 have L1:Hid (w1.heap[w.heap.size]? = some (.cells #[.slice s.a1 s.n1 s.c1,.slice s.a2 s.n2 s.c2,.int .i64 x.key.1,.int .u64 x.key.2.1,.int .i64 x.key.2.2,.slice s.a3 s.n3 s.c3] 58 (0,0))):=(hb1.block _ (Array.getElem?_eq_some_iff.1 L0.out).1).trans L0.out
 clear hb1 B0 L0 HSZ
 by_cases hneg:r<0
 ·clear hr
  go_wp2
  go_ret
  exact ⟨rfl,B1.out⟩
 have HZ:Hid (RQZ x):=by rcases hr with h | h; exact absurd h hneg; exact h.2.2
 clear hr
 have HTO:Hid (∀ W,Below w.heap.size w W→Calls Tryz.prog 26 #[.agg #[.slice s.a1 s.n1 s.c1,.slice s.a2 s.n2 s.c2,.int .i64 x.key.1,.int .u64 x.key.2.1,.int .i64 x.key.2.2,.slice s.a3 s.n3 s.c3]] W fun e w'=>∃ t:RQS,e=.returned (RQv t x)∧RQT t∧RQR w' t x∧Below W.heap.size W w'):=fun W hW=>(toReq_k s x W (HK.out.kept hW) HZ.out).mono fun e w' ⟨t,h1,h2,h3,h4⟩=>⟨t,h1,h2,h3.now,h4⟩
 go_wp2_with (first | (refine wpList_load_row rfl 58 _ rfl w.heap.size rfl 58 #[.slice s.a1 s.n1 s.c1,.slice s.a2 s.n2 s.c2,.int .i64 x.key.1,.int .u64 x.key.2.1,.int .i64 x.key.2.2,.slice s.a3 s.n3 s.c3] (0,0) _ L1.out Tryz.underlying58 rfl infoSizeQL9 ?_) | fail)
 refine (HTO.out _ B1.out).mono ?_
 rintro e w2 ⟨t1,rfl,ht1,hk2,hb2⟩
 have B2:Hid (Below w.heap.size w w2):=B1.out.trans (hb2.mono B1.out.size)
 have L2:Hid (w2.heap[w.heap.size]? = some (.cells #[.slice s.a1 s.n1 s.c1,.slice s.a2 s.n2 s.c2,.int .i64 x.key.1,.int .u64 x.key.2.1,.int .i64 x.key.2.2,.slice s.a3 s.n3 s.c3] 58 (0,0))):=(hb2.block _ (Array.getElem?_eq_some_iff.1 L1.out).1).trans L1.out
 have S2:Hid (Calls Tryz.prog 25 #[RQv t1 x] w2 (Says (rqP x) w2)):=specReqOk_any t1 x w2 hk2 HZ.out ht1 HU.out
 clear hb2 hk2 ht1 B1 L1
 go_wp2_with fail
 refine S2.out.mono ?_
 rintro e w3 ⟨v3,rfl,hv3,hb3⟩
 have B3:Hid (Below w.heap.size w w3):=B2.out.trans (hb3.mono B2.out.size)
 have L3:Hid (w3.heap[w.heap.size]? = some (.cells #[.slice s.a1 s.n1 s.c1,.slice s.a2 s.n2 s.c2,.int .i64 x.key.1,.int .u64 x.key.2.1,.int .i64 x.key.2.2,.slice s.a3 s.n3 s.c3] 58 (0,0))):=(hb3.block _ (Array.getElem?_eq_some_iff.1 L2.out).1).trans L2.out
 clear hb3 S2 B2 L2
 go_wp2_with (first | (refine wpList_load_row rfl 58 _ rfl w.heap.size rfl 58 #[.slice s.a1 s.n1 s.c1,.slice s.a2 s.n2 s.c2,.int .i64 x.key.1,.int .u64 x.key.2.1,.int .i64 x.key.2.2,.slice s.a3 s.n3 s.c3] (0,0) _ L3.out Tryz.underlying58 rfl infoSizeQL9 ?_) | fail)
 refine (HTO.out _ B3.out).mono ?_
 rintro e w4 ⟨t,rfl,ht,hk4,hb4⟩
 have B4:Hid (Below w.heap.size w w4):=B3.out.trans (hb4.mono B3.out.size)
 have L4:Hid (w4.heap[w.heap.size]? = some (.cells #[.slice s.a1 s.n1 s.c1,.slice s.a2 s.n2 s.c2,.int .i64 x.key.1,.int .u64 x.key.2.1,.int .i64 x.key.2.2,.slice s.a3 s.n3 s.c3] 58 (0,0))):=(hb4.block _ (Array.getElem?_eq_some_iff.1 L3.out).1).trans L3.out
 have hz4:(w4.alloc (.cells #[.slice none 0 0,.slice none 0 0,.int .i64 0,.int .u64 0,.int .i64 0,.slice none 0 0] 62)).heap[w4.heap.size]? = some (.cells #[.slice none 0 0,.slice none 0 0,.int .i64 0,.int .u64 0,.int .i64 0,.slice none 0 0] 62 (0,0)):=heap_alloc_new w4 _
 have HZ4:Hid (_=_):=hz4
 obtain ⟨w5,hw5⟩:∃ w5,w5=(w4.alloc (.cells #[.slice none 0 0,.slice none 0 0,.int .i64 0,.int .u64 0,.int .i64 0,.slice none 0 0] 62)).setRow w4.heap.size #[.slice t.a1 t.n1 t.c1,.slice t.a2 t.n2 t.c2,.int .i64 x.key.1,.int .u64 x.key.2.1,.int .i64 x.key.2.2,.slice t.a3 t.n3 t.c3]:=⟨_,rfl⟩
 have hb5:Below w4.heap.size w4 w5:=by rw [hw5]; exact below_setRow ((Below.refl _ _).alloc (Nat.le_refl _) _) (Nat.le_refl _) _
 have X5:Hid (w5.heap[w4.heap.size]? = some (.cells #[.slice t.a1 t.n1 t.c1,.slice t.a2 t.n2 t.c2,.int .i64 x.key.1,.int .u64 x.key.2.1,.int .i64 x.key.2.2,.slice t.a3 t.n3 t.c3] 62 (0,0))):=by show _=_; rw [hw5]; exact setRow_heap _ _ _ _ _ _ hz4
 have B5:Hid (Below w.heap.size w w5):=B4.out.trans (hb5.mono B4.out.size)
 have L5:Hid (w5.heap[w.heap.size]? = some (.cells #[.slice s.a1 s.n1 s.c1,.slice s.a2 s.n2 s.c2,.int .i64 x.key.1,.int .u64 x.key.2.1,.int .i64 x.key.2.2,.slice s.a3 s.n3 s.c3] 58 (0,0))):=(hb5.block _ (Array.getElem?_eq_some_iff.1 L4.out).1).trans L4.out
 have K5:Hid (RQR w5 t x):=hk4.kept hb5
 have I5:Hid (Calls Tryz.prog 27 #[.agg #[.slice t.a1 t.n1 t.c1,.slice t.a2 t.n2 t.c2,.int .i64 x.key.1,.int .u64 x.key.2.1,.int .i64 x.key.2.2,.slice t.a3 t.n3 t.c3]] w5 (Says (rqP x) w5)):=implReqOk_any t x w5 (HM.out _ B5.out) K5.out HZ.out ht HU.out
 have HW5:Hid (_=_):=hw5
 clear hw5 hb4 hb5 hk4 B3 L3 B4 L4 hz4
 go_upto_region 7 with (first | (refine wpList_store_rowTo rfl 62 _ _ rfl rfl w4.heap.size #[.slice t.a1 t.n1 t.c1,.slice t.a2 t.n2 t.c2,.int .i64 x.key.1,.int .u64 x.key.2.1,.int .i64 x.key.2.2,.slice t.a3 t.n3 t.c3] rfl rfl 62 #[.slice none 0 0,.slice none 0 0,.int .i64 0,.int .u64 0,.int .i64 0,.slice none 0 0] HZ4.out infoSizeQ9 rfl (by simp [Value.oneCell']) ?_) | fail)
 rw [← HW5.out]
 clear HW5
 go_wp2_with (first | (refine wpList_load_row rfl 62 _ rfl w4.heap.size rfl 62 #[.slice t.a1 t.n1 t.c1,.slice t.a2 t.n2 t.c2,.int .i64 x.key.1,.int .u64 x.key.2.1,.int .i64 x.key.2.2,.slice t.a3 t.n3 t.c3] (0,0) _ X5.out Tryz.underlying62 rfl infoSizeQ9 ?_) | fail)
 refine I5.out.mono ?_
 rintro e w6 ⟨v6,rfl,hv6,hb6⟩
 have B6:Hid (Below w.heap.size w w6):=B5.out.trans (hb6.mono B5.out.size)
 have L6:Hid (w6.heap[w.heap.size]? = some (.cells #[.slice s.a1 s.n1 s.c1,.slice s.a2 s.n2 s.c2,.int .i64 x.key.1,.int .u64 x.key.2.1,.int .i64 x.key.2.2,.slice s.a3 s.n3 s.c3] 58 (0,0))):=(hb6.block _ (Array.getElem?_eq_some_iff.1 L5.out).1).trans L5.out
 have X6:Hid (w6.heap[w4.heap.size]? = some (.cells #[.slice t.a1 t.n1 t.c1,.slice t.a2 t.n2 t.c2,.int .i64 x.key.1,.int .u64 x.key.2.1,.int .i64 x.key.2.2,.slice t.a3 t.n3 t.c3] 62 (0,0))):=(hb6.block _ (Array.getElem?_eq_some_iff.1 X5.out).1).trans X5.out
 have K6:Hid (RQR w6 t x):=K5.out.kept hb6
 obtain rfl:v6=v3:=says_one hv6 hv3
 have tne:(v6 != v6)=false:=by simp
 have HTD:Hid (∀ W,Below w6.heap.size w6 W→Calls Tryz.prog 26 #[.agg #[.slice s.a1 s.n1 s.c1,.slice s.a2 s.n2 s.c2,.int .i64 x.key.1,.int .u64 x.key.2.1,.int .i64 x.key.2.2,.slice s.a3 s.n3 s.c3]] W fun e w'=>∃ u:RQS,e=.returned (RQv u x)∧RQR w' u x∧Below W.heap.size W w'):=fun W hW=>(HTO.out W (B6.out.trans (hW.mono B6.out.size))).mono fun e w' ⟨u,h1,h2,h3,h4⟩=>⟨u,h1,h3,h4⟩
 have HEQ:Hid (∀ W (u:RQS),Below w6.heap.size w6 W→RQR W u x→Calls Tryz.prog 28 #[.agg #[.slice t.a1 t.n1 t.c1,.slice t.a2 t.n2 t.c2,.int .i64 x.key.1,.int .u64 x.key.2.1,.int .i64 x.key.2.2,.slice t.a3 t.n3 t.c3],RQv u x] W fun e w'=>e=.returned (.bool true)∧Below W.heap.size W w'):=fun W u hW hu=>eqReq_k t u x W (K6.out.kept hW) hu HZ.out
 have HBB:w6.heap.size≤w6.heap.size:=Nat.le_refl _
 clear hb6 hv3 hv6 I5 B5 L5 X5 K5
 go_upto_region 10 with fail
 refine wp_region_ri (lq10 s t x w4.heap.size w.heap.size (w6.heap.size)) [22,23,24,25,26] (w6.heap.size) (fun a0=>a0.tmps.size=27∧aT a0 1=.pointer (some ⟨w.heap.size,0,none⟩)∧aT a0 5=.pointer (some ⟨w4.heap.size,0,none⟩)) (by kernel_rfl) rfl (by kernel_rfl) rfl ⟨rfl,rfl,rfl⟩ (lq10_stb s t x w4.heap.size w.heap.size (w6.heap.size)) ?_ ?_ ?_
 ·intro k hk hk2
  match k,hk,hk2 with
  | 5,_,_=>exact X6.out
  | 6,_,_=>exact L6.out
  | 0,hk,_=>exact absurd hk (by show ¬ (5≤0); omega)
  | 1,hk,_=>exact absurd hk (by show ¬ (5≤1); omega)
  | 2,hk,_=>exact absurd hk (by show ¬ (5≤2); omega)
  | 3,hk,_=>exact absurd hk (by show ¬ (5≤3); omega)
  | 4,hk,_=>exact absurd hk (by show ¬ (5≤4); omega)
  | k+7,_,hk2=>exact absurd hk2 (by show ¬ (k+7<7); omega)
 ·rintro a0 ⟨hz,g1,g5⟩
  refine StepsRI.cons ?_ (StepsRI.cons ?_ (StepsRI.cons ?_ (StepsRI.cons ?_ (StepsRI.cons ?_ (StepsRI.nil)))))
  ·intro lQ b W hI hUN hED KQ hKQ
   have hg:=(hI.vot 5 (of_decide_eq_true rfl) (of_decide_eq_true rfl) rfl)
   refine wp_load_row 62 _ rfl (w4.heap.size) ((hI.fr.same 5 (by decide)).trans g5) 62 #[.slice t.a1 t.n1 t.c1,.slice t.a2 t.n2 t.c2,.int .i64 x.key.1,.int .u64 x.key.2.1,.int .i64 x.key.2.2,.slice t.a3 t.n3 t.c3] (0,0) _ hg Tryz.underlying62 rfl (by kernel_rfl) ?_
   exact hKQ.out _ _ (hI.put 0 22 rfl rfl (by rw [hz]; decide) rfl hUN rfl HBB (lq10_stb s t x w4.heap.size w.heap.size (w6.heap.size)) (Below.refl _ _) rfl)
  ·intro lQ b W hI hUN hED KQ hKQ
   have hg:=(hI.vot 6 (of_decide_eq_true rfl) (of_decide_eq_true rfl) rfl)
   refine wp_load_row 58 _ rfl (w.heap.size) ((hI.fr.same 1 (by decide)).trans g1) 58 #[.slice s.a1 s.n1 s.c1,.slice s.a2 s.n2 s.c2,.int .i64 x.key.1,.int .u64 x.key.2.1,.int .i64 x.key.2.2,.slice s.a3 s.n3 s.c3] (0,0) _ hg Tryz.underlying58 rfl (by kernel_rfl) ?_
   exact hKQ.out _ _ (hI.put 1 23 rfl rfl (by rw [hz]; decide) rfl hUN rfl HBB (lq10_stb s t x w4.heap.size w.heap.size (w6.heap.size)) (Below.refl _ _) rfl)
  ·intro lQ b W hI hUN hED KQ hKQ
   have f0:=hI.got 1 (of_decide_eq_true rfl) (edge hED 1 (by kernel_rfl)) rfl
   replace f0:aT b 23=.agg #[.slice s.a1 s.n1 s.c1,.slice s.a2 s.n2 s.c2,.int .i64 x.key.1,.int .u64 x.key.2.1,.int .i64 x.key.2.2,.slice s.a3 s.n3 s.c3]:=f0
   refine opw_call 26 #[.tmp 23] _ _ _ rfl Tryz.func26 (by kernel_rfl) rfl #[.agg #[.slice s.a1 s.n1 s.c1,.slice s.a2 s.n2 s.c2,.int .i64 x.key.1,.int .u64 x.key.2.1,.int .i64 x.key.2.2,.slice s.a3 s.n3 s.c3]] (by simp [ev,f0]) ?_
   refine (HTD.out W hI.bel).mono ?_
   rintro e W2 ⟨u,rfl,hk,hb⟩
   exact ⟨_,rfl,hKQ.out _ _ (hI.put 2 24 rfl rfl (by rw [hz]; decide) rfl hUN rfl HBB (lq10_stb s t x w4.heap.size w.heap.size (w6.heap.size)) hb ⟨u,rfl,hk⟩)⟩
  ·intro lQ b W hI hUN hED KQ hKQ
   have f0:=hI.got 0 (of_decide_eq_true rfl) (edge hED 0 (by kernel_rfl)) rfl
   replace f0:aT b 22=.agg #[.slice t.a1 t.n1 t.c1,.slice t.a2 t.n2 t.c2,.int .i64 x.key.1,.int .u64 x.key.2.1,.int .i64 x.key.2.2,.slice t.a3 t.n3 t.c3]:=f0
   have f1:=hI.got 2 (of_decide_eq_true rfl) (edge hED 2 (by kernel_rfl)) rfl
   obtain ⟨u,f1,o1_0⟩:=f1
   replace f1:aT b 24=RQv u x:=f1
   refine opw_call 28 #[.tmp 22,.tmp 24] _ _ _ rfl Tryz.func28 (by kernel_rfl) rfl #[.agg #[.slice t.a1 t.n1 t.c1,.slice t.a2 t.n2 t.c2,.int .i64 x.key.1,.int .u64 x.key.2.1,.int .i64 x.key.2.2,.slice t.a3 t.n3 t.c3],RQv u x] (by simp [ev,f0,f1]) ?_
   refine (HEQ.out W u hI.bel o1_0).mono ?_
   rintro e W2 ⟨rfl,hb⟩
   exact ⟨_,rfl,hKQ.out _ _ (hI.put 3 25 rfl rfl (by rw [hz]; decide) rfl hUN rfl HBB (lq10_stb s t x w4.heap.size w.heap.size (w6.heap.size)) hb rfl)⟩
  ·intro lQ b W hI hUN hED KQ hKQ
   have f:aT b 25=.bool true:=hI.got 3 (of_decide_eq_true rfl) (edge hED 3 (by kernel_rfl)) rfl
   exact opw_not _ 25 rfl true f (hKQ.out _ _ (hI.put 4 26 rfl rfl (by rw [hz]; decide) rfl hUN rfl HBB (lq10_stb s t x w4.heap.size w.heap.size (w6.heap.size)) (Below.refl _ _) rfl))
 ·intro b W hf hb F
  have e26:aT b 26=.bool false:=F 4 (of_decide_eq_true rfl) rfl
  rw [hf.eq]
  simp only [puts,Act.put,List.setIfInBounds_toArray,List.set_cons_zero,List.set_cons_succ,e26]
  clear hf F e26
  generalize aT b=AT
  clear b
  go_wp2
  go_ret
  exact ⟨rfl,B6.out.trans (hb.mono B6.out.size)⟩
end Go.Proofs.YtmdfbnlgfhjnoaaGreatDoor
