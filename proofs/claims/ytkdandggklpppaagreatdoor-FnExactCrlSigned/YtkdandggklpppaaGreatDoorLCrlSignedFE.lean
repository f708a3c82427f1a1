import Derived.Test.YtkdandggklpppaaGreatDoorFE47
set_option maxRecDepth 10000
set_option maxHeartbeats 8000000
set_option linter.unusedVariables false
namespace Go.Proofs.YtkdandggklpppaaGreatDoor
open Go.RowKit Go.Sort
theorem opw_notJ {P:Program}{Q:Exit→Act→World→Prop}{o:Oper}{a:Act}{w:World}{K:Act→World→Prop}(t x:Nat)(ho:o.op=.unOp .not t (.tmp x))(p:Bool)(hx:aT a x=.bool p)(h:K (a.put o.dst (.bool (!p))) w):o.wp P a w K Q:=by
 refine opw_value (.bool (!p)) ?_ h
 have hx':a.eval (.tmp x)=.bool p:=hx
 unfold execOp
 simp only [ho,hx']
 simp [go_sem]
theorem infoSizeJ:(Tryz.prog.info? 39).map (·.size)=some 9:=by kernel_rfl
theorem infoSizeJL:(Tryz.prog.info? 28).map (·.size)=some 9:=by kernel_rfl
def lj5 (p1:Option Addr)(q1 r1:Nat)(p2:Option Addr)(q2 r2:Nat)(p3:Option Addr)(q3 r3:Nat)(x:CP)(sc yy hh:Int)(vb:Bool)(G B:Nat):RSpec where
 m:=6
 n:=8
 slots:=[14,15,16,17,18,6,100006,100007]
 kills:=[[],[],[],[],[],[],[],[]]
 pres:=[[],[],[],[],[],[],[],[]]
 fact:=fun k v w=>match k with
  | 0=>v=.agg #[.slice p1 q1 r1,.int .i64 x.num,.int .i64 x.base,.int .i64 x.tm,.int .i64 x.next,.int .i64 x.scope,.bool x.ind,.slice p2 q2 r2,.slice p3 q3 r3]
  | 1=>∃ (z1:Option Addr) (z2:Option Addr) (z3:Option Addr),v=crv z1 q1 q1 z2 q2 q2 z3 q3 q3 x∧Crs w z1 q1 z2 q2 z3 q3 x
  | 2=>v=.agg #[.int .i64 sc,.int .u64 yy,.int .i64 hh]
  | 3=>v=.agg #[.int .i64 sc,.int .u64 yy,.int .i64 hh]
  | 4=>v=.bool vb
  | 5=>v=.bool vb
  | 6=>w.heap[G]? = some (.cells #[.slice p1 q1 r1,.int .i64 x.num,.int .i64 x.base,.int .i64 x.tm,.int .i64 x.next,.int .i64 x.scope,.bool x.ind,.slice p2 q2 r2,.slice p3 q3 r3] 28 (0,0))
  | _=>w.heap[(G+1)]? = some (.cells #[.int .i64 sc,.int .u64 yy,.int .i64 hh] 31 (0,0))
theorem lj5_stb (p1:Option Addr)(q1 r1:Nat)(p2:Option Addr)(q2 r2:Nat)(p3:Option Addr)(q3 r3:Nat)(x:CP)(sc yy hh:Int)(vb:Bool)(G B:Nat)(k:Nat)(hk:k<8):StB ((lj5 p1 q1 r1 p2 q2 r2 p3 q3 r3 x sc yy hh vb G (B)).fact k):=by
 match k,hk with
 | 0,_=>exact fun _ _ _ h _=>h
 | 1,_=>exact fun _ _ _ ⟨z1,z2,z3,hv,q_0⟩ hb=>⟨z1,z2,z3,hv,q_0.kept hb⟩
 | 2,_=>exact fun _ _ _ h _=>h
 | 3,_=>exact fun _ _ _ h _=>h
 | 4,_=>exact fun _ _ _ h _=>h
 | 5,_=>exact fun _ _ _ h _=>h
 | 6,_=>exact fun _ _ _ q_0 hb=>below_kept q_0 hb
 | 7,_=>exact fun _ _ _ q_0 hb=>below_kept q_0 hb
 | k+8,hk=>omega
def lj7 (p1:Option Addr)(q1 r1:Nat)(p2:Option Addr)(q2 r2:Nat)(p3:Option Addr)(q3 r3:Nat)(x:CP)(t1 t2 t3:Option Addr)(sc yy hh:Int)(vb:Bool)(gx G B:Nat):RSpec where
 m:=5
 n:=7
 slots:=[21,22,23,24,8,100005,100006]
 kills:=[[],[],[],[],[],[],[]]
 pres:=[[],[],[],[],[],[],[]]
 fact:=fun k v w=>match k with
  | 0=>v=.agg #[.slice t1 q1 q1,.int .i64 x.num,.int .i64 x.base,.int .i64 x.tm,.int .i64 x.next,.int .i64 x.scope,.bool x.ind,.slice t2 q2 q2,.slice t3 q3 q3]
  | 1=>v=.agg #[.int .i64 sc,.int .u64 yy,.int .i64 hh]
  | 2=>v=.agg #[.int .i64 sc,.int .u64 yy,.int .i64 hh]
  | 3=>v=.bool vb
  | 4=>v=.bool vb
  | 5=>w.heap[gx]? = some (.cells #[.slice t1 q1 q1,.int .i64 x.num,.int .i64 x.base,.int .i64 x.tm,.int .i64 x.next,.int .i64 x.scope,.bool x.ind,.slice t2 q2 q2,.slice t3 q3 q3] 39 (0,0))
  | _=>w.heap[(G+1)]? = some (.cells #[.int .i64 sc,.int .u64 yy,.int .i64 hh] 31 (0,0))
theorem lj7_stb (p1:Option Addr)(q1 r1:Nat)(p2:Option Addr)(q2 r2:Nat)(p3:Option Addr)(q3 r3:Nat)(x:CP)(t1 t2 t3:Option Addr)(sc yy hh:Int)(vb:Bool)(gx G B:Nat)(k:Nat)(hk:k<7):StB ((lj7 p1 q1 r1 p2 q2 r2 p3 q3 r3 x t1 t2 t3 sc yy hh vb gx G (B)).fact k):=by
 match k,hk with
 | 0,_=>exact fun _ _ _ h _=>h
 | 1,_=>exact fun _ _ _ h _=>h
 | 2,_=>exact fun _ _ _ h _=>h
 | 3,_=>exact fun _ _ _ h _=>h
 | 4,_=>exact fun _ _ _ h _=>h
 | 5,_=>exact fun _ _ _ q_0 hb=>below_kept q_0 hb
 | 6,_=>exact fun _ _ _ q_0 hb=>below_kept q_0 hb
 | k+7,hk=>omega
def lj10 (p1:Option Addr)(q1 r1:Nat)(p2:Option Addr)(q2 r2:Nat)(p3:Option Addr)(q3 r3:Nat)(x:CP)(t1 t2 t3:Option Addr)(sc yy hh:Int)(vb:Bool)(gx G B:Nat):RSpec where
 m:=5
 n:=7
 slots:=[28,29,30,31,32,100005,100006]
 kills:=[[],[],[],[],[],[],[]]
 pres:=[[],[],[],[],[],[],[]]
 fact:=fun k v w=>match k with
  | 0=>v=.agg #[.slice t1 q1 q1,.int .i64 x.num,.int .i64 x.base,.int .i64 x.tm,.int .i64 x.next,.int .i64 x.scope,.bool x.ind,.slice t2 q2 q2,.slice t3 q3 q3]
  | 1=>v=.agg #[.slice p1 q1 r1,.int .i64 x.num,.int .i64 x.base,.int .i64 x.tm,.int .i64 x.next,.int .i64 x.scope,.bool x.ind,.slice p2 q2 r2,.slice p3 q3 r3]
  | 2=>∃ (z1:Option Addr) (z2:Option Addr) (z3:Option Addr),v=crv z1 q1 q1 z2 q2 q2 z3 q3 q3 x∧Crs w z1 q1 z2 q2 z3 q3 x
  | 3=>v=.bool true
  | 4=>v=.bool false
  | 5=>w.heap[gx]? = some (.cells #[.slice t1 q1 q1,.int .i64 x.num,.int .i64 x.base,.int .i64 x.tm,.int .i64 x.next,.int .i64 x.scope,.bool x.ind,.slice t2 q2 q2,.slice t3 q3 q3] 39 (0,0))
  | _=>w.heap[G]? = some (.cells #[.slice p1 q1 r1,.int .i64 x.num,.int .i64 x.base,.int .i64 x.tm,.int .i64 x.next,.int .i64 x.scope,.bool x.ind,.slice p2 q2 r2,.slice p3 q3 r3] 28 (0,0))
theorem lj10_stb (p1:Option Addr)(q1 r1:Nat)(p2:Option Addr)(q2 r2:Nat)(p3:Option Addr)(q3 r3:Nat)(x:CP)(t1 t2 t3:Option Addr)(sc yy hh:Int)(vb:Bool)(gx G B:Nat)(k:Nat)(hk:k<7):StB ((lj10 p1 q1 r1 p2 q2 r2 p3 q3 r3 x t1 t2 t3 sc yy hh vb gx G (B)).fact k):=by
 match k,hk with
 | 0,_=>exact fun _ _ _ h _=>h
 | 1,_=>exact fun _ _ _ h _=>h
 | 2,_=>exact fun _ _ _ ⟨z1,z2,z3,hv,q_0⟩ hb=>⟨z1,z2,z3,hv,q_0.kept hb⟩
 | 3,_=>exact fun _ _ _ h _=>h
 | 4,_=>exact fun _ _ _ h _=>h
 | 5,_=>exact fun _ _ _ q_0 hb=>below_kept q_0 hb
 | 6,_=>exact fun _ _ _ q_0 hb=>below_kept q_0 hb
 | k+7,hk=>omega
theorem lawCrlSigned_walk (p1 : Option Addr) (q1 r1 : Nat) (p2 : Option Addr) (q2 r2 : Nat) (p3 : Option Addr) (q3 r3 : Nat) (x : CP) (sc yy hh : Int) (w : World) (htab : Lib.TabIs Tryz.prog w "internal/strconv.uint64pow10" .u64 Lib.pow10Tab) (hsc : -9223372036854775808 ≤ x.scope ∧ x.scope ≤ 9223372036854775807) (hy : U64 yy) (h : Crs w p1 q1 p2 q2 p3 q3 x) :
  Calls Tryz.prog 3 #[crv p1 q1 r1 p2 q2 r2 p3 q3 r3 x,kpv sc yy hh] w fun e w'=>e=.returned (.bool true)∧Below w.heap.size w w':=by
 have HK:Hid (Crs w p1 q1 p2 q2 p3 q3 x):=h
 have HM : Hid (∀ W, Below w.heap.size w W → Lib.TabIs Tryz.prog W "internal/strconv.uint64pow10" .u64 Lib.pow10Tab) := fun W hW => Lib.tabBelow_of_tabIs htab W hW
 have HSC:Hid (-9223372036854775808≤x.scope∧x.scope≤9223372036854775807):=hsc
 have HY:Hid (U64 yy):=hy
 obtain ⟨vb,hvb⟩:∃ vb:Bool,vb=true↔clP x sc yy hh:=by
  by_cases q:clP x sc yy hh
  ·exact ⟨true,⟨fun _=>q,fun _=>rfl⟩⟩
  ·exact ⟨false,⟨fun e=>(by cases e),fun e=>absurd e q⟩⟩
 have HVB:Hid (vb=true↔clP x sc yy hh):=hvb
 clear h htab hsc hy hvb
 show Calls Tryz.prog 3 #[.agg #[.slice p1 q1 r1,.int .i64 x.num,.int .i64 x.base,.int .i64 x.tm,.int .i64 x.next,.int .i64 x.scope,.bool x.ind,.slice p2 q2 r2,.slice p3 q3 r3],.agg #[.int .i64 sc,.int .u64 yy,.int .i64 hh]] w _
 obtain ⟨w0,hw0⟩:∃ w0,w0=(w.alloc (.cells #[.slice p1 q1 r1,.int .i64 x.num,.int .i64 x.base,.int .i64 x.tm,.int .i64 x.next,.int .i64 x.scope,.bool x.ind,.slice p2 q2 r2,.slice p3 q3 r3] 28)).alloc (.cells #[.int .i64 sc,.int .u64 yy,.int .i64 hh] 31):=⟨_,rfl⟩
 have B0:Hid (Below w.heap.size w w0):=by show Below _ _ _; rw [hw0]; exact ((Below.refl _ _).alloc (Nat.le_refl _) _).alloc (by simp) _
 have hbx:=two_blocks w (.cells #[.slice p1 q1 r1,.int .i64 x.num,.int .i64 x.base,.int .i64 x.tm,.int .i64 x.next,.int .i64 x.scope,.bool x.ind,.slice p2 q2 r2,.slice p3 q3 r3] 28) (.cells #[.int .i64 sc,.int .u64 yy,.int .i64 hh] 31)
 rw [← hw0] at hbx
 have L0:Hid (w0.heap[w.heap.size]? = some (.cells #[.slice p1 q1 r1,.int .i64 x.num,.int .i64 x.base,.int .i64 x.tm,.int .i64 x.next,.int .i64 x.scope,.bool x.ind,.slice p2 q2 r2,.slice p3 q3 r3] 28 (0,0))):=hbx.1
 have P0:Hid (w0.heap[w.heap.size+1]? = some (.cells #[.int .i64 sc,.int .u64 yy,.int .i64 hh] 31 (0,0))):=hbx.2
 clear hbx
 have HSZ:Hid (∀ W,Below w.heap.size w W→Calls Tryz.prog 4 #[.agg #[.slice p1 q1 r1,.int .i64 x.num,.int .i64 x.base,.int .i64 x.tm,.int .i64 x.next,.int .i64 x.scope,.bool x.ind,.slice p2 q2 r2,.slice p3 q3 r3],.int .i64 1048576] W fun e w'=>∃ r,e=.returned (.int .i64 r)∧(r<0∨(0≤r∧r≤1048576∧CpOk q1 q2 q3 x))∧Below W.heap.size W w'):=fun W hW=>szCrl_any p1 q1 r1 p2 q2 r2 p3 q3 r3 x 1048576 W (HK.out.kept hW) (by decide) (by decide)
 go_enter Tryz.func3,Tryz.ntmps3
 go_upto_region 1 with fail
 rw [← hw0]
 clear hw0
 go_wp2_with (first | (refine wpList_load_row rfl 28 _ rfl w.heap.size rfl 28 #[.slice p1 q1 r1,.int .i64 x.num,.int .i64 x.base,.int .i64 x.tm,.int .i64 x.next,.int .i64 x.scope,.bool x.ind,.slice p2 q2 r2,.slice p3 q3 r3] (0,0) _ L0.out Tryz.underlying28 rfl infoSizeJL ?_) | fail)
 refine (HSZ.out _ B0.out).mono ?_
 rintro e w1 ⟨r,rfl,hr,hb1⟩
 have B1:Hid (Below w.heap.size w w1):=B0.out.trans (hb1.mono B0.out.size)
 have L1:Hid (w1.heap[w.heap.size]? = some (.cells #[.slice p1 q1 r1,.int .i64 x.num,.int .i64 x.base,.int .i64 x.tm,.int .i64 x.next,.int .i64 x.scope,.bool x.ind,.slice p2 q2 r2,.slice p3 q3 r3] 28 (0,0))):=below_kept L0.out hb1
 have P1:Hid (w1.heap[w.heap.size+1]? = some (.cells #[.int .i64 sc,.int .u64 yy,.int .i64 hh] 31 (0,0))):=below_kept P0.out hb1
 clear hb1 B0 L0 P0 HSZ
 by_cases hneg:r<0
 ·clear hr
  go_wp2
  go_ret
  exact ⟨rfl,B1.out⟩
 have HZ:Hid (CpOk q1 q2 q3 x):=by rcases hr with h | h; exact absurd h hneg; exact h.2.2
 clear hr
 have HTO:Hid (∀ W,Below w.heap.size w W→Calls Tryz.prog 6 #[.agg #[.slice p1 q1 r1,.int .i64 x.num,.int .i64 x.base,.int .i64 x.tm,.int .i64 x.next,.int .i64 x.scope,.bool x.ind,.slice p2 q2 r2,.slice p3 q3 r3]] W fun e w'=>∃ z1 z2 z3,e=.returned (crv z1 q1 q1 z2 q2 q2 z3 q3 q3 x)∧Crs w' z1 q1 z2 q2 z3 q3 x∧Below W.heap.size W w'):=fun W hW=>(toCrl_k p1 q1 r1 p2 q2 r2 p3 q3 r3 x W (HK.out.kept hW) HZ.out).mono fun e w' ⟨z1,z2,z3,h1,h3,h4⟩=>⟨z1,z2,z3,h1,h3.now,h4⟩
 have HTP:Hid (∀ W,Calls Tryz.prog 7 #[.agg #[.int .i64 sc,.int .u64 yy,.int .i64 hh]] W fun e w'=>e=.returned (.agg #[.int .i64 sc,.int .u64 yy,.int .i64 hh])∧Below W.heap.size W w'):=fun W=>toPub_any sc yy hh W
 have HTD:Hid (∀ W,Below w1.heap.size w1 W→Calls Tryz.prog 6 #[.agg #[.slice p1 q1 r1,.int .i64 x.num,.int .i64 x.base,.int .i64 x.tm,.int .i64 x.next,.int .i64 x.scope,.bool x.ind,.slice p2 q2 r2,.slice p3 q3 r3]] W fun e w'=>∃ z1 z2 z3,e=.returned (crv z1 q1 q1 z2 q2 q2 z3 q3 q3 x)∧Crs w' z1 q1 z2 q2 z3 q3 x∧Below W.heap.size W w'):=fun W hW=>HTO.out W (B1.out.trans (hW.mono B1.out.size))
 have HSP:Hid (∀ W (z1 z2 z3:Option Addr),Below w1.heap.size w1 W→Crs W z1 q1 z2 q2 z3 q3 x→Calls Tryz.prog 5 #[crv z1 q1 q1 z2 q2 q2 z3 q3 q3 x,.agg #[.int .i64 sc,.int .u64 yy,.int .i64 hh]] W fun e w'=>e=.returned (.bool vb)∧Below W.heap.size W w'):=fun W z1 z2 z3 hW hk=>(specCrlSigned_any z1 q1 q1 z2 q2 q2 z3 q3 q3 x sc yy hh W hk HZ.out HY.out (Nat.le_refl _)).mono fun e w' ⟨v,e1,e2,e3⟩=>by
  obtain rfl:v=vb:=says_one e2 HVB
  exact ⟨e1,e3⟩
 have HBB:w1.heap.size≤w1.heap.size:=Nat.le_refl _
 go_upto_region 5 with fail
 refine wp_region_ri (lj5 p1 q1 r1 p2 q2 r2 p3 q3 r3 x sc yy hh vb w.heap.size (w1.heap.size)) [6,14,15,16,17,18] (w1.heap.size) (fun a0=>a0.tmps.size=33∧aT a0 2=.pointer (some ⟨w.heap.size,0,none⟩)∧aT a0 3=.pointer (some ⟨(w.heap.size+1),0,none⟩)) (by kernel_rfl) rfl (by kernel_rfl) rfl ⟨rfl,rfl,rfl⟩ (lj5_stb p1 q1 r1 p2 q2 r2 p3 q3 r3 x sc yy hh vb w.heap.size (w1.heap.size)) ?_ ?_ ?_
 ·intro k hk hk2
  match k,hk,hk2 with
  | 6,_,_=>exact L1.out
  | 7,_,_=>exact P1.out
  | 0,hk,_=>exact absurd hk (by show ¬ (6≤0); omega)
  | 1,hk,_=>exact absurd hk (by show ¬ (6≤1); omega)
  | 2,hk,_=>exact absurd hk (by show ¬ (6≤2); omega)
  | 3,hk,_=>exact absurd hk (by show ¬ (6≤3); omega)
  | 4,hk,_=>exact absurd hk (by show ¬ (6≤4); omega)
  | 5,hk,_=>exact absurd hk (by show ¬ (6≤5); omega)
  | k+8,_,hk2=>exact absurd hk2 (by show ¬ (k+8<8); omega)
 ·rintro a0 ⟨hz,g2,g3⟩
  refine StepsRI.cons ?_ (StepsRI.cons ?_ (StepsRI.cons ?_ (StepsRI.cons ?_ (StepsRI.cons ?_ (StepsRI.cons ?_ (StepsRI.nil))))))
  ·intro lQ b W hI hUN hED KQ hKQ
   have hg:=(hI.vot 6 (of_decide_eq_true rfl) (of_decide_eq_true rfl) rfl)
   refine wp_load_row 28 _ rfl (w.heap.size) ((hI.fr.same 2 (by decide)).trans g2) 28 #[.slice p1 q1 r1,.int .i64 x.num,.int .i64 x.base,.int .i64 x.tm,.int .i64 x.next,.int .i64 x.scope,.bool x.ind,.slice p2 q2 r2,.slice p3 q3 r3] (0,0) _ hg Tryz.underlying28 rfl (by kernel_rfl) ?_
   exact hKQ.out _ _ (hI.put 0 14 rfl rfl (by rw [hz]; decide) rfl hUN rfl HBB (lj5_stb p1 q1 r1 p2 q2 r2 p3 q3 r3 x sc yy hh vb w.heap.size (w1.heap.size)) (Below.refl _ _) rfl)
  ·intro lQ b W hI hUN hED KQ hKQ
   have f0:=hI.got 0 (of_decide_eq_true rfl) (edge hED 0 (by kernel_rfl)) rfl
   replace f0:aT b 14=.agg #[.slice p1 q1 r1,.int .i64 x.num,.int .i64 x.base,.int .i64 x.tm,.int .i64 x.next,.int .i64 x.scope,.bool x.ind,.slice p2 q2 r2,.slice p3 q3 r3]:=f0
   refine opw_call 6 #[.tmp 14] _ _ _ rfl Tryz.func6 (by kernel_rfl) rfl #[.agg #[.slice p1 q1 r1,.int .i64 x.num,.int .i64 x.base,.int .i64 x.tm,.int .i64 x.next,.int .i64 x.scope,.bool x.ind,.slice p2 q2 r2,.slice p3 q3 r3]] (by simp [ev,f0]) ?_
   refine (HTD.out W hI.bel).mono ?_
   rintro e W2 ⟨z1,z2,z3,rfl,hk,hb⟩
   exact ⟨_,rfl,hKQ.out _ _ (hI.put 1 15 rfl rfl (by rw [hz]; decide) rfl hUN rfl HBB (lj5_stb p1 q1 r1 p2 q2 r2 p3 q3 r3 x sc yy hh vb w.heap.size (w1.heap.size)) hb ⟨z1,z2,z3,rfl,hk⟩)⟩
  ·intro lQ b W hI hUN hED KQ hKQ
   have hg:=(hI.vot 7 (of_decide_eq_true rfl) (of_decide_eq_true rfl) rfl)
   refine wp_load_row 31 _ rfl ((w.heap.size+1)) ((hI.fr.same 3 (by decide)).trans g3) 31 #[.int .i64 sc,.int .u64 yy,.int .i64 hh] (0,0) _ hg Tryz.underlying31 rfl (by kernel_rfl) ?_
   exact hKQ.out _ _ (hI.put 2 16 rfl rfl (by rw [hz]; decide) rfl hUN rfl HBB (lj5_stb p1 q1 r1 p2 q2 r2 p3 q3 r3 x sc yy hh vb w.heap.size (w1.heap.size)) (Below.refl _ _) rfl)
  ·intro lQ b W hI hUN hED KQ hKQ
   have f0:=hI.got 2 (of_decide_eq_true rfl) (edge hED 2 (by kernel_rfl)) rfl
   replace f0:aT b 16=.agg #[.int .i64 sc,.int .u64 yy,.int .i64 hh]:=f0
   refine opw_call 7 #[.tmp 16] _ _ _ rfl Tryz.func7 (by kernel_rfl) rfl #[.agg #[.int .i64 sc,.int .u64 yy,.int .i64 hh]] (by simp [ev,f0]) ?_
   refine (HTP.out W).mono ?_
   rintro e W2 ⟨rfl,hb⟩
   exact ⟨_,rfl,hKQ.out _ _ (hI.put 3 17 rfl rfl (by rw [hz]; decide) rfl hUN rfl HBB (lj5_stb p1 q1 r1 p2 q2 r2 p3 q3 r3 x sc yy hh vb w.heap.size (w1.heap.size)) hb rfl)⟩
  ·intro lQ b W hI hUN hED KQ hKQ
   have f0:=hI.got 1 (of_decide_eq_true rfl) (edge hED 1 (by kernel_rfl)) rfl
   obtain ⟨z1,z2,z3,f0,o0_0⟩:=f0
   replace f0:aT b 15=crv z1 q1 q1 z2 q2 q2 z3 q3 q3 x:=f0
   have f1:=hI.got 3 (of_decide_eq_true rfl) (edge hED 3 (by kernel_rfl)) rfl
   replace f1:aT b 17=.agg #[.int .i64 sc,.int .u64 yy,.int .i64 hh]:=f1
   refine opw_call 5 #[.tmp 15,.tmp 17] _ _ _ rfl Tryz.func5 (by kernel_rfl) rfl #[crv z1 q1 q1 z2 q2 q2 z3 q3 q3 x,.agg #[.int .i64 sc,.int .u64 yy,.int .i64 hh]] (by simp [ev,f0,f1]) ?_
   refine (HSP.out W z1 z2 z3 hI.bel o0_0).mono ?_
   rintro e W2 ⟨rfl,hb⟩
   exact ⟨_,rfl,hKQ.out _ _ (hI.put 4 18 rfl rfl (by rw [hz]; decide) rfl hUN rfl HBB (lj5_stb p1 q1 r1 p2 q2 r2 p3 q3 r3 x sc yy hh vb w.heap.size (w1.heap.size)) hb rfl)⟩
  ·intro lQ b W hI hUN hED KQ hKQ
   have f:=hI.got 4 (of_decide_eq_true rfl) (edge hED 4 (by kernel_rfl)) rfl
   exact opw_assign 18 rfl (hKQ.out _ _ (hI.put 5 6 rfl rfl (by rw [hz]; decide) rfl hUN rfl HBB (lj5_stb p1 q1 r1 p2 q2 r2 p3 q3 r3 x sc yy hh vb w.heap.size (w1.heap.size)) (Below.refl _ _) f))
 ·intro b W hf hb F
  have e6:aT b 6=.bool vb:=F 5 (of_decide_eq_true rfl) rfl
  rw [hf.eq]
  simp only [puts,Act.put,List.setIfInBounds_toArray,List.set_cons_zero,List.set_cons_succ,e6]
  clear hf F e6
  generalize aT b=AT
  clear b
  obtain ⟨w3,hw3⟩:∃ w3,w3=W:=⟨_,rfl⟩
  rw [← hw3] at hb ⊢
  have B3:Hid (Below w.heap.size w w3):=B1.out.trans (hb.mono B1.out.size)
  have L3:Hid (w3.heap[w.heap.size]? = some (.cells #[.slice p1 q1 r1,.int .i64 x.num,.int .i64 x.base,.int .i64 x.tm,.int .i64 x.next,.int .i64 x.scope,.bool x.ind,.slice p2 q2 r2,.slice p3 q3 r3] 28 (0,0))):=below_kept L1.out hb
  have P3:Hid (w3.heap[w.heap.size+1]? = some (.cells #[.int .i64 sc,.int .u64 yy,.int .i64 hh] 31 (0,0))):=below_kept P1.out hb
  clear hb hw3 B1 L1 P1 HTD HSP HBB
  go_wp2_with (first | (refine wpList_load_row rfl 28 _ rfl w.heap.size rfl 28 #[.slice p1 q1 r1,.int .i64 x.num,.int .i64 x.base,.int .i64 x.tm,.int .i64 x.next,.int .i64 x.scope,.bool x.ind,.slice p2 q2 r2,.slice p3 q3 r3] (0,0) _ L3.out Tryz.underlying28 rfl infoSizeJL ?_) | fail)
  refine (HTO.out _ B3.out).mono ?_
  rintro e w4 ⟨t1,t2,t3,rfl,hk4,hb4⟩
  have B4:Hid (Below w.heap.size w w4):=B3.out.trans (hb4.mono B3.out.size)
  have L4:Hid (w4.heap[w.heap.size]? = some (.cells #[.slice p1 q1 r1,.int .i64 x.num,.int .i64 x.base,.int .i64 x.tm,.int .i64 x.next,.int .i64 x.scope,.bool x.ind,.slice p2 q2 r2,.slice p3 q3 r3] 28 (0,0))):=below_kept L3.out hb4
  have P4:Hid (w4.heap[w.heap.size+1]? = some (.cells #[.int .i64 sc,.int .u64 yy,.int .i64 hh] 31 (0,0))):=below_kept P3.out hb4
  have hz4:(w4.alloc (.cells #[.slice none 0 0,.int .i64 0,.int .i64 0,.int .i64 0,.int .i64 0,.int .i64 0,.bool false,.slice none 0 0,.slice none 0 0] 39)).heap[w4.heap.size]? = some (.cells #[.slice none 0 0,.int .i64 0,.int .i64 0,.int .i64 0,.int .i64 0,.int .i64 0,.bool false,.slice none 0 0,.slice none 0 0] 39 (0,0)):=heap_alloc_new w4 _
  have HZ4:Hid (_=_):=hz4
  obtain ⟨w5,hw5⟩:∃ w5,w5=(w4.alloc (.cells #[.slice none 0 0,.int .i64 0,.int .i64 0,.int .i64 0,.int .i64 0,.int .i64 0,.bool false,.slice none 0 0,.slice none 0 0] 39)).setRow w4.heap.size #[.slice t1 q1 q1,.int .i64 x.num,.int .i64 x.base,.int .i64 x.tm,.int .i64 x.next,.int .i64 x.scope,.bool x.ind,.slice t2 q2 q2,.slice t3 q3 q3]:=⟨_,rfl⟩
  have hb5:Below w4.heap.size w4 w5:=by rw [hw5]; exact below_setRow ((Below.refl _ _).alloc (Nat.le_refl _) _) (Nat.le_refl _) _
  have X5:Hid (w5.heap[w4.heap.size]? = some (.cells #[.slice t1 q1 q1,.int .i64 x.num,.int .i64 x.base,.int .i64 x.tm,.int .i64 x.next,.int .i64 x.scope,.bool x.ind,.slice t2 q2 q2,.slice t3 q3 q3] 39 (0,0))):=by show _=_; rw [hw5]; exact setRow_heap _ _ _ _ _ _ hz4
  have B5:Hid (Below w.heap.size w w5):=B4.out.trans (hb5.mono B4.out.size)
  have L5:Hid (w5.heap[w.heap.size]? = some (.cells #[.slice p1 q1 r1,.int .i64 x.num,.int .i64 x.base,.int .i64 x.tm,.int .i64 x.next,.int .i64 x.scope,.bool x.ind,.slice p2 q2 r2,.slice p3 q3 r3] 28 (0,0))):=below_kept L4.out hb5
  have P5:Hid (w5.heap[w.heap.size+1]? = some (.cells #[.int .i64 sc,.int .u64 yy,.int .i64 hh] 31 (0,0))):=below_kept P4.out hb5
  have K5:Hid (Crs w5 t1 q1 t2 q2 t3 q3 x):=hk4.kept hb5
  have HIP:Hid (∀ W,Below w5.heap.size w5 W→Calls Tryz.prog 8 #[.agg #[.slice t1 q1 q1,.int .i64 x.num,.int .i64 x.base,.int .i64 x.tm,.int .i64 x.next,.int .i64 x.scope,.bool x.ind,.slice t2 q2 q2,.slice t3 q3 q3],.agg #[.int .i64 sc,.int .u64 yy,.int .i64 hh]] W fun e w'=>e=.returned (.bool vb)∧Below W.heap.size W w'):=fun W hW=>(implCrlSigned_any t1 q1 q1 t2 q2 q2 t3 q3 q3 x sc yy hh W (HM.out _ (B5.out.trans (hW.mono B5.out.size))) HSC.out (K5.out.kept hW) HZ.out HY.out (Nat.le_refl _)).mono fun e w' ⟨v,e1,e2,e3⟩=>by
   obtain rfl:v=vb:=says_one e2 HVB
   exact ⟨e1,e3⟩
  have HBB:w5.heap.size≤w5.heap.size:=Nat.le_refl _
  have HW5:Hid (_=_):=hw5
  clear hw5 hb4 hb5 hk4 B3 L3 P3 B4 L4 P4 hz4
  go_upto_region 7 with (first | (refine wpList_store_rowTo rfl 39 _ _ rfl rfl w4.heap.size #[.slice t1 q1 q1,.int .i64 x.num,.int .i64 x.base,.int .i64 x.tm,.int .i64 x.next,.int .i64 x.scope,.bool x.ind,.slice t2 q2 q2,.slice t3 q3 q3] rfl rfl 39 #[.slice none 0 0,.int .i64 0,.int .i64 0,.int .i64 0,.int .i64 0,.int .i64 0,.bool false,.slice none 0 0,.slice none 0 0] HZ4.out infoSizeJ rfl (by simp [Value.oneCell']) ?_) | fail)
  rw [← HW5.out]
  clear HW5 HZ4
  refine wp_region_ri (lj7 p1 q1 r1 p2 q2 r2 p3 q3 r3 x t1 t2 t3 sc yy hh vb w4.heap.size w.heap.size (w5.heap.size)) [8,21,22,23,24] (w5.heap.size) (fun a0=>a0.tmps.size=33∧aT a0 3=.pointer (some ⟨(w.heap.size+1),0,none⟩)∧aT a0 7=.pointer (some ⟨w4.heap.size,0,none⟩)) (by kernel_rfl) rfl (by kernel_rfl) rfl ⟨rfl,rfl,rfl⟩ (lj7_stb p1 q1 r1 p2 q2 r2 p3 q3 r3 x t1 t2 t3 sc yy hh vb w4.heap.size w.heap.size (w5.heap.size)) ?_ ?_ ?_
  ·intro k hk hk2
   match k,hk,hk2 with
   | 5,_,_=>exact X5.out
   | 6,_,_=>exact P5.out
   | 0,hk,_=>exact absurd hk (by show ¬ (5≤0); omega)
   | 1,hk,_=>exact absurd hk (by show ¬ (5≤1); omega)
   | 2,hk,_=>exact absurd hk (by show ¬ (5≤2); omega)
   | 3,hk,_=>exact absurd hk (by show ¬ (5≤3); omega)
   | 4,hk,_=>exact absurd hk (by show ¬ (5≤4); omega)
   | k+7,_,hk2=>exact absurd hk2 (by show ¬ (k+7<7); omega)
  ·rintro a0 ⟨hz,g3,g7⟩
   refine StepsRI.cons ?_ (StepsRI.cons ?_ (StepsRI.cons ?_ (StepsRI.cons ?_ (StepsRI.cons ?_ (StepsRI.nil)))))
   ·intro lQ b W hI hUN hED KQ hKQ
    have hg:=(hI.vot 5 (of_decide_eq_true rfl) (of_decide_eq_true rfl) rfl)
    refine wp_load_row 39 _ rfl (w4.heap.size) ((hI.fr.same 7 (by decide)).trans g7) 39 #[.slice t1 q1 q1,.int .i64 x.num,.int .i64 x.base,.int .i64 x.tm,.int .i64 x.next,.int .i64 x.scope,.bool x.ind,.slice t2 q2 q2,.slice t3 q3 q3] (0,0) _ hg Tryz.underlying39 rfl (by kernel_rfl) ?_
    exact hKQ.out _ _ (hI.put 0 21 rfl rfl (by rw [hz]; decide) rfl hUN rfl HBB (lj7_stb p1 q1 r1 p2 q2 r2 p3 q3 r3 x t1 t2 t3 sc yy hh vb w4.heap.size w.heap.size (w5.heap.size)) (Below.refl _ _) rfl)
   ·intro lQ b W hI hUN hED KQ hKQ
    have hg:=(hI.vot 6 (of_decide_eq_true rfl) (of_decide_eq_true rfl) rfl)
    refine wp_load_row 31 _ rfl ((w.heap.size+1)) ((hI.fr.same 3 (by decide)).trans g3) 31 #[.int .i64 sc,.int .u64 yy,.int .i64 hh] (0,0) _ hg Tryz.underlying31 rfl (by kernel_rfl) ?_
    exact hKQ.out _ _ (hI.put 1 22 rfl rfl (by rw [hz]; decide) rfl hUN rfl HBB (lj7_stb p1 q1 r1 p2 q2 r2 p3 q3 r3 x t1 t2 t3 sc yy hh vb w4.heap.size w.heap.size (w5.heap.size)) (Below.refl _ _) rfl)
   ·intro lQ b W hI hUN hED KQ hKQ
    have f0:=hI.got 1 (of_decide_eq_true rfl) (edge hED 1 (by kernel_rfl)) rfl
    replace f0:aT b 22=.agg #[.int .i64 sc,.int .u64 yy,.int .i64 hh]:=f0
    refine opw_call 7 #[.tmp 22] _ _ _ rfl Tryz.func7 (by kernel_rfl) rfl #[.agg #[.int .i64 sc,.int .u64 yy,.int .i64 hh]] (by simp [ev,f0]) ?_
    refine (HTP.out W).mono ?_
    rintro e W2 ⟨rfl,hb⟩
    exact ⟨_,rfl,hKQ.out _ _ (hI.put 2 23 rfl rfl (by rw [hz]; decide) rfl hUN rfl HBB (lj7_stb p1 q1 r1 p2 q2 r2 p3 q3 r3 x t1 t2 t3 sc yy hh vb w4.heap.size w.heap.size (w5.heap.size)) hb rfl)⟩
   ·intro lQ b W hI hUN hED KQ hKQ
    have f0:=hI.got 0 (of_decide_eq_true rfl) (edge hED 0 (by kernel_rfl)) rfl
    replace f0:aT b 21=.agg #[.slice t1 q1 q1,.int .i64 x.num,.int .i64 x.base,.int .i64 x.tm,.int .i64 x.next,.int .i64 x.scope,.bool x.ind,.slice t2 q2 q2,.slice t3 q3 q3]:=f0
    have f1:=hI.got 2 (of_decide_eq_true rfl) (edge hED 2 (by kernel_rfl)) rfl
    replace f1:aT b 23=.agg #[.int .i64 sc,.int .u64 yy,.int .i64 hh]:=f1
    refine opw_call 8 #[.tmp 21,.tmp 23] _ _ _ rfl Tryz.func8 (by kernel_rfl) rfl #[.agg #[.slice t1 q1 q1,.int .i64 x.num,.int .i64 x.base,.int .i64 x.tm,.int .i64 x.next,.int .i64 x.scope,.bool x.ind,.slice t2 q2 q2,.slice t3 q3 q3],.agg #[.int .i64 sc,.int .u64 yy,.int .i64 hh]] (by simp [ev,f0,f1]) ?_
    refine (HIP.out W hI.bel).mono ?_
    rintro e W2 ⟨rfl,hb⟩
    exact ⟨_,rfl,hKQ.out _ _ (hI.put 3 24 rfl rfl (by rw [hz]; decide) rfl hUN rfl HBB (lj7_stb p1 q1 r1 p2 q2 r2 p3 q3 r3 x t1 t2 t3 sc yy hh vb w4.heap.size w.heap.size (w5.heap.size)) hb rfl)⟩
   ·intro lQ b W hI hUN hED KQ hKQ
    have f:=hI.got 3 (of_decide_eq_true rfl) (edge hED 3 (by kernel_rfl)) rfl
    exact opw_assign 24 rfl (hKQ.out _ _ (hI.put 4 8 rfl rfl (by rw [hz]; decide) rfl hUN rfl HBB (lj7_stb p1 q1 r1 p2 q2 r2 p3 q3 r3 x t1 t2 t3 sc yy hh vb w4.heap.size w.heap.size (w5.heap.size)) (Below.refl _ _) f))
  ·intro b W hf hb F
   have e8:aT b 8=.bool vb:=F 4 (of_decide_eq_true rfl) rfl
   rw [hf.eq]
   simp only [puts,Act.put,List.setIfInBounds_toArray,List.set_cons_zero,List.set_cons_succ,e8]
   clear hf F e8
   generalize aT b=AT
   clear b
   obtain ⟨w6,hw6⟩:∃ w6,w6=W:=⟨_,rfl⟩
   rw [← hw6] at hb ⊢
   have B6:Hid (Below w.heap.size w w6):=B5.out.trans (hb.mono B5.out.size)
   have L6:Hid (w6.heap[w.heap.size]? = some (.cells #[.slice p1 q1 r1,.int .i64 x.num,.int .i64 x.base,.int .i64 x.tm,.int .i64 x.next,.int .i64 x.scope,.bool x.ind,.slice p2 q2 r2,.slice p3 q3 r3] 28 (0,0))):=below_kept L5.out hb
   have X6:Hid (w6.heap[w4.heap.size]? = some (.cells #[.slice t1 q1 q1,.int .i64 x.num,.int .i64 x.base,.int .i64 x.tm,.int .i64 x.next,.int .i64 x.scope,.bool x.ind,.slice t2 q2 q2,.slice t3 q3 q3] 39 (0,0))):=below_kept X5.out hb
   have K6:Hid (Crs w6 t1 q1 t2 q2 t3 q3 x):=K5.out.kept hb
   have tne:(vb != vb)=false:=by simp
   have HTD:Hid (∀ W,Below w6.heap.size w6 W→Calls Tryz.prog 6 #[.agg #[.slice p1 q1 r1,.int .i64 x.num,.int .i64 x.base,.int .i64 x.tm,.int .i64 x.next,.int .i64 x.scope,.bool x.ind,.slice p2 q2 r2,.slice p3 q3 r3]] W fun e w'=>∃ z1 z2 z3,e=.returned (crv z1 q1 q1 z2 q2 q2 z3 q3 q3 x)∧Crs w' z1 q1 z2 q2 z3 q3 x∧Below W.heap.size W w'):=fun W hW=>HTO.out W (B6.out.trans (hW.mono B6.out.size))
   have HEQ:Hid (∀ W (z1 z2 z3:Option Addr),Below w6.heap.size w6 W→Crs W z1 q1 z2 q2 z3 q3 x→Calls Tryz.prog 9 #[.agg #[.slice t1 q1 q1,.int .i64 x.num,.int .i64 x.base,.int .i64 x.tm,.int .i64 x.next,.int .i64 x.scope,.bool x.ind,.slice t2 q2 q2,.slice t3 q3 q3],crv z1 q1 q1 z2 q2 q2 z3 q3 q3 x] W fun e w'=>e=.returned (.bool true)∧Below W.heap.size W w'):=fun W z1 z2 z3 hW hu=>eqCrl_same t1 q1 q1 t2 q2 q2 t3 q3 q3 z1 q1 z2 q2 z3 q3 x W (K6.out.kept hW) hu HZ.out.2.2.2.2
   have HBB:w6.heap.size≤w6.heap.size:=Nat.le_refl _
   clear hb hw6 B5 L5 X5 P5 K5 HIP
   go_upto_region 10 with fail
   refine wp_region_ri (lj10 p1 q1 r1 p2 q2 r2 p3 q3 r3 x t1 t2 t3 sc yy hh vb w4.heap.size w.heap.size (w6.heap.size)) [28,29,30,31,32] (w6.heap.size) (fun a0=>a0.tmps.size=33∧aT a0 2=.pointer (some ⟨w.heap.size,0,none⟩)∧aT a0 7=.pointer (some ⟨w4.heap.size,0,none⟩)) (by kernel_rfl) rfl (by kernel_rfl) rfl ⟨rfl,rfl,rfl⟩ (lj10_stb p1 q1 r1 p2 q2 r2 p3 q3 r3 x t1 t2 t3 sc yy hh vb w4.heap.size w.heap.size (w6.heap.size)) ?_ ?_ ?_
   ·intro k hk hk2
    match k,hk,hk2 with
    | 5,_,_=>exact X6.out
    | 6,_,_=>exact L6.out
    | 0,hk,_=>exact absurd hk (by show ¬ (5≤0); omega)
    | 1,hk,_=>exact absurd hk (by show ¬ (5≤1); omega)
    | 2,hk,_=>exact absurd hk (by show ¬ (5≤2); omega)
    | 3,hk,_=>exact absurd hk (by show ¬ (5≤3); omega)
    | 4,hk,_=>exact absurd hk (by show ¬ (5≤4); omega)
    | k+7,_,hk2=>exact absurd hk2 (by show ¬ (k+7<7); omega)
   ·rintro a0 ⟨hz,g2,g7⟩
    refine StepsRI.cons ?_ (StepsRI.cons ?_ (StepsRI.cons ?_ (StepsRI.cons ?_ (StepsRI.cons ?_ (StepsRI.nil)))))
    ·intro lQ b W hI hUN hED KQ hKQ
     have hg:=(hI.vot 5 (of_decide_eq_true rfl) (of_decide_eq_true rfl) rfl)
     refine wp_load_row 39 _ rfl (w4.heap.size) ((hI.fr.same 7 (by decide)).trans g7) 39 #[.slice t1 q1 q1,.int .i64 x.num,.int .i64 x.base,.int .i64 x.tm,.int .i64 x.next,.int .i64 x.scope,.bool x.ind,.slice t2 q2 q2,.slice t3 q3 q3] (0,0) _ hg Tryz.underlying39 rfl (by kernel_rfl) ?_
     exact hKQ.out _ _ (hI.put 0 28 rfl rfl (by rw [hz]; decide) rfl hUN rfl HBB (lj10_stb p1 q1 r1 p2 q2 r2 p3 q3 r3 x t1 t2 t3 sc yy hh vb w4.heap.size w.heap.size (w6.heap.size)) (Below.refl _ _) rfl)
    ·intro lQ b W hI hUN hED KQ hKQ
     have hg:=(hI.vot 6 (of_decide_eq_true rfl) (of_decide_eq_true rfl) rfl)
     refine wp_load_row 28 _ rfl (w.heap.size) ((hI.fr.same 2 (by decide)).trans g2) 28 #[.slice p1 q1 r1,.int .i64 x.num,.int .i64 x.base,.int .i64 x.tm,.int .i64 x.next,.int .i64 x.scope,.bool x.ind,.slice p2 q2 r2,.slice p3 q3 r3] (0,0) _ hg Tryz.underlying28 rfl (by kernel_rfl) ?_
     exact hKQ.out _ _ (hI.put 1 29 rfl rfl (by rw [hz]; decide) rfl hUN rfl HBB (lj10_stb p1 q1 r1 p2 q2 r2 p3 q3 r3 x t1 t2 t3 sc yy hh vb w4.heap.size w.heap.size (w6.heap.size)) (Below.refl _ _) rfl)
    ·intro lQ b W hI hUN hED KQ hKQ
     have f0:=hI.got 1 (of_decide_eq_true rfl) (edge hED 1 (by kernel_rfl)) rfl
     replace f0:aT b 29=.agg #[.slice p1 q1 r1,.int .i64 x.num,.int .i64 x.base,.int .i64 x.tm,.int .i64 x.next,.int .i64 x.scope,.bool x.ind,.slice p2 q2 r2,.slice p3 q3 r3]:=f0
     refine opw_call 6 #[.tmp 29] _ _ _ rfl Tryz.func6 (by kernel_rfl) rfl #[.agg #[.slice p1 q1 r1,.int .i64 x.num,.int .i64 x.base,.int .i64 x.tm,.int .i64 x.next,.int .i64 x.scope,.bool x.ind,.slice p2 q2 r2,.slice p3 q3 r3]] (by simp [ev,f0]) ?_
     refine (HTD.out W hI.bel).mono ?_
     rintro e W2 ⟨z1,z2,z3,rfl,hk,hb⟩
     exact ⟨_,rfl,hKQ.out _ _ (hI.put 2 30 rfl rfl (by rw [hz]; decide) rfl hUN rfl HBB (lj10_stb p1 q1 r1 p2 q2 r2 p3 q3 r3 x t1 t2 t3 sc yy hh vb w4.heap.size w.heap.size (w6.heap.size)) hb ⟨z1,z2,z3,rfl,hk⟩)⟩
    ·intro lQ b W hI hUN hED KQ hKQ
     have f0:=hI.got 0 (of_decide_eq_true rfl) (edge hED 0 (by kernel_rfl)) rfl
     replace f0:aT b 28=.agg #[.slice t1 q1 q1,.int .i64 x.num,.int .i64 x.base,.int .i64 x.tm,.int .i64 x.next,.int .i64 x.scope,.bool x.ind,.slice t2 q2 q2,.slice t3 q3 q3]:=f0
     have f1:=hI.got 2 (of_decide_eq_true rfl) (edge hED 2 (by kernel_rfl)) rfl
     obtain ⟨z1,z2,z3,f1,o1_0⟩:=f1
     replace f1:aT b 30=crv z1 q1 q1 z2 q2 q2 z3 q3 q3 x:=f1
     refine opw_call 9 #[.tmp 28,.tmp 30] _ _ _ rfl Tryz.func9 (by kernel_rfl) rfl #[.agg #[.slice t1 q1 q1,.int .i64 x.num,.int .i64 x.base,.int .i64 x.tm,.int .i64 x.next,.int .i64 x.scope,.bool x.ind,.slice t2 q2 q2,.slice t3 q3 q3],crv z1 q1 q1 z2 q2 q2 z3 q3 q3 x] (by simp [ev,f0,f1]) ?_
     refine (HEQ.out W z1 z2 z3 hI.bel o1_0).mono ?_
     rintro e W2 ⟨rfl,hb⟩
     exact ⟨_,rfl,hKQ.out _ _ (hI.put 3 31 rfl rfl (by rw [hz]; decide) rfl hUN rfl HBB (lj10_stb p1 q1 r1 p2 q2 r2 p3 q3 r3 x t1 t2 t3 sc yy hh vb w4.heap.size w.heap.size (w6.heap.size)) hb rfl)⟩
    ·intro lQ b W hI hUN hED KQ hKQ
     have f:aT b 31=.bool true:=hI.got 3 (of_decide_eq_true rfl) (edge hED 3 (by kernel_rfl)) rfl
     exact opw_notJ _ 31 rfl true f (hKQ.out _ _ (hI.put 4 32 rfl rfl (by rw [hz]; decide) rfl hUN rfl HBB (lj10_stb p1 q1 r1 p2 q2 r2 p3 q3 r3 x t1 t2 t3 sc yy hh vb w4.heap.size w.heap.size (w6.heap.size)) (Below.refl _ _) rfl))
   ·intro b W hf hb F
    have e32:aT b 32=.bool false:=F 4 (of_decide_eq_true rfl) rfl
    rw [hf.eq]
    simp only [puts,Act.put,List.setIfInBounds_toArray,List.set_cons_zero,List.set_cons_succ,e32]
    clear hf F e32
    generalize aT b=AT
    clear b
    go_wp2
    go_ret
    exact ⟨rfl,B6.out.trans (hb.mono B6.out.size)⟩
end Go.Proofs.YtkdandggklpppaaGreatDoor
