import Derived.Test.YtmdfbnlgfhjnoaaGreatDoorFA48
import Derived.Test.YtmdfbnlgfhjnoaaGreatDoorFA46
import Derived.Test.YtmdfbnlgfhjnoaaGreatDoorFA42
set_option maxRecDepth 10000
set_option maxHeartbeats 8000000
set_option linter.unusedVariables false
namespace Go.Proofs.YtmdfbnlgfhjnoaaGreatDoor
open Go.RowKit Go.Sort
def lf10 (s t:CES)(x:CE)(gx G B:Nat):RSpec where
 m:=5
 n:=7
 slots:=[22,23,24,25,26,100005,100006]
 kills:=[[],[],[],[],[],[],[]]
 pres:=[[],[],[],[],[],[],[]]
 fact:=fun k v w=>match k with
  | 0=>v=.agg #[.int .i64 x.ser,.slice t.a1 t.n1 t.c1,.slice t.a2 t.n2 t.c2,.int .i64 x.frm,.int .i64 x.til,.int .i64 x.key.1,.int .u64 x.key.2.1,.int .i64 x.key.2.2,.bool x.ca,.int .i64 x.room,.int .i64 x.uses,.slice t.a3 t.n3 t.c3,.slice t.a4 t.n4 t.c4,.slice t.a5 t.n5 t.c5,.slice t.a6 t.n6 t.c6,.slice t.a7 t.n7 t.c7,.int .i64 x.need,.int .i64 x.nomap,.int .i64 x.noany,.slice t.a8 t.n8 t.c8,.slice t.a9 t.n9 t.c9]
  | 1=>v=.agg #[.int .i64 x.ser,.slice s.a1 s.n1 s.c1,.slice s.a2 s.n2 s.c2,.int .i64 x.frm,.int .i64 x.til,.int .i64 x.key.1,.int .u64 x.key.2.1,.int .i64 x.key.2.2,.bool x.ca,.int .i64 x.room,.int .i64 x.uses,.slice s.a3 s.n3 s.c3,.slice s.a4 s.n4 s.c4,.slice s.a5 s.n5 s.c5,.slice s.a6 s.n6 s.c6,.slice s.a7 s.n7 s.c7,.int .i64 x.need,.int .i64 x.nomap,.int .i64 x.noany,.slice s.a8 s.n8 s.c8,.slice s.a9 s.n9 s.c9]
  | 2=>∃ (u:CES),v=CEv u x∧CER w u x
  | 3=>v=.bool true
  | 4=>v=.bool false
  | 5=>w.heap[gx]? = some (.cells #[.int .i64 x.ser,.slice t.a1 t.n1 t.c1,.slice t.a2 t.n2 t.c2,.int .i64 x.frm,.int .i64 x.til,.int .i64 x.key.1,.int .u64 x.key.2.1,.int .i64 x.key.2.2,.bool x.ca,.int .i64 x.room,.int .i64 x.uses,.slice t.a3 t.n3 t.c3,.slice t.a4 t.n4 t.c4,.slice t.a5 t.n5 t.c5,.slice t.a6 t.n6 t.c6,.slice t.a7 t.n7 t.c7,.int .i64 x.need,.int .i64 x.nomap,.int .i64 x.noany,.slice t.a8 t.n8 t.c8,.slice t.a9 t.n9 t.c9] 46 (0,0))
  | _=>w.heap[G]? = some (.cells #[.int .i64 x.ser,.slice s.a1 s.n1 s.c1,.slice s.a2 s.n2 s.c2,.int .i64 x.frm,.int .i64 x.til,.int .i64 x.key.1,.int .u64 x.key.2.1,.int .i64 x.key.2.2,.bool x.ca,.int .i64 x.room,.int .i64 x.uses,.slice s.a3 s.n3 s.c3,.slice s.a4 s.n4 s.c4,.slice s.a5 s.n5 s.c5,.slice s.a6 s.n6 s.c6,.slice s.a7 s.n7 s.c7,.int .i64 x.need,.int .i64 x.nomap,.int .i64 x.noany,.slice s.a8 s.n8 s.c8,.slice s.a9 s.n9 s.c9] 34 (0,0))
theorem lf10_stb (s t:CES)(x:CE)(gx G B:Nat)(k:Nat)(hk:k<7):StB ((lf10 s t x gx G (B)).fact k):=by
 match k,hk with
 | 0,_=>exact fun _ _ _ h _=>h
 | 1,_=>exact fun _ _ _ h _=>h
 | 2,_=>exact fun _ _ _ ⟨u,hv,q_0⟩ hb=>⟨u,hv,q_0.kept hb⟩
 | 3,_=>exact fun _ _ _ h _=>h
 | 4,_=>exact fun _ _ _ h _=>h
 | 5,_=>exact fun _ _ _ q_0 hb=>below_kept q_0 hb
 | 6,_=>exact fun _ _ _ q_0 hb=>below_kept q_0 hb
 | k+7,hk=>omega
theorem lawFinger_walk (s:CES)(x:CE)(w:World)(hm:MaxW w)(hu:U64 x.key.2.1)(h:CER w s x) :
  Calls Tryz.prog 5 #[CEv s x] w fun e w'=>e=.returned (.bool true)∧Below w.heap.size w w':=by
 obtain ⟨bo,l,hcb,hcl⟩:=cbR_any 2 x
 have HCB:Hid (CbR 2 x bo l):=hcb
 obtain ⟨vf,hvf⟩:∃ vf,vf=fgV bo l:=⟨_,rfl⟩
 have HVF:Hid (vf=fgV bo l):=hvf
 clear hcb hvf
 have HK:Hid (CER w s x):=h
 have HM:Hid (∀ W,Below w.heap.size w W→MaxW W):=fun W hW=>hm.kept hW
 have HU:Hid (U64 x.key.2.1):=hu
 clear h hm hu
 show Calls Tryz.prog 5 #[.agg #[.int .i64 x.ser,.slice s.a1 s.n1 s.c1,.slice s.a2 s.n2 s.c2,.int .i64 x.frm,.int .i64 x.til,.int .i64 x.key.1,.int .u64 x.key.2.1,.int .i64 x.key.2.2,.bool x.ca,.int .i64 x.room,.int .i64 x.uses,.slice s.a3 s.n3 s.c3,.slice s.a4 s.n4 s.c4,.slice s.a5 s.n5 s.c5,.slice s.a6 s.n6 s.c6,.slice s.a7 s.n7 s.c7,.int .i64 x.need,.int .i64 x.nomap,.int .i64 x.noany,.slice s.a8 s.n8 s.c8,.slice s.a9 s.n9 s.c9]] w _
 obtain ⟨w0,hw0⟩:∃ w0,w0=w.alloc (.cells #[.int .i64 x.ser,.slice s.a1 s.n1 s.c1,.slice s.a2 s.n2 s.c2,.int .i64 x.frm,.int .i64 x.til,.int .i64 x.key.1,.int .u64 x.key.2.1,.int .i64 x.key.2.2,.bool x.ca,.int .i64 x.room,.int .i64 x.uses,.slice s.a3 s.n3 s.c3,.slice s.a4 s.n4 s.c4,.slice s.a5 s.n5 s.c5,.slice s.a6 s.n6 s.c6,.slice s.a7 s.n7 s.c7,.int .i64 x.need,.int .i64 x.nomap,.int .i64 x.noany,.slice s.a8 s.n8 s.c8,.slice s.a9 s.n9 s.c9] 34):=⟨_,rfl⟩
 have B0:Hid (Below w.heap.size w w0):=by show Below _ _ _; rw [hw0]; exact (Below.refl _ _).alloc (Nat.le_refl _) _
 have L0:Hid (w0.heap[w.heap.size]? = some (.cells #[.int .i64 x.ser,.slice s.a1 s.n1 s.c1,.slice s.a2 s.n2 s.c2,.int .i64 x.frm,.int .i64 x.til,.int .i64 x.key.1,.int .u64 x.key.2.1,.int .i64 x.key.2.2,.bool x.ca,.int .i64 x.room,.int .i64 x.uses,.slice s.a3 s.n3 s.c3,.slice s.a4 s.n4 s.c4,.slice s.a5 s.n5 s.c5,.slice s.a6 s.n6 s.c6,.slice s.a7 s.n7 s.c7,.int .i64 x.need,.int .i64 x.nomap,.int .i64 x.noany,.slice s.a8 s.n8 s.c8,.slice s.a9 s.n9 s.c9] 34 (0,0))):=by show _=_; rw [hw0]; exact heap_alloc_new w _
 have HSZ:Hid (∀ W,Below w.heap.size w W→Calls Tryz.prog 8 #[.agg #[.int .i64 x.ser,.slice s.a1 s.n1 s.c1,.slice s.a2 s.n2 s.c2,.int .i64 x.frm,.int .i64 x.til,.int .i64 x.key.1,.int .u64 x.key.2.1,.int .i64 x.key.2.2,.bool x.ca,.int .i64 x.room,.int .i64 x.uses,.slice s.a3 s.n3 s.c3,.slice s.a4 s.n4 s.c4,.slice s.a5 s.n5 s.c5,.slice s.a6 s.n6 s.c6,.slice s.a7 s.n7 s.c7,.int .i64 x.need,.int .i64 x.nomap,.int .i64 x.noany,.slice s.a8 s.n8 s.c8,.slice s.a9 s.n9 s.c9],.int .i64 1048576] W fun e w'=>∃ r,e=.returned (.int .i64 r)∧(r<0∨(0≤r∧r≤1048576∧CEZ x))∧Below W.heap.size W w'):=fun W hW=>szCert_k s x 1048576 W (HK.out.kept hW) (by decide) (by decide)
 go_enter Tryz.func5,Tryz.ntmps5
 go_upto_region 1 with fail
 rw [← hw0]
 clear hw0
 go_wp2_with (first | (refine wpList_load_row rfl 34 _ rfl w.heap.size rfl 34 #[.int .i64 x.ser,.slice s.a1 s.n1 s.c1,.slice s.a2 s.n2 s.c2,.int .i64 x.frm,.int .i64 x.til,.int .i64 x.key.1,.int .u64 x.key.2.1,.int .i64 x.key.2.2,.bool x.ca,.int .i64 x.room,.int .i64 x.uses,.slice s.a3 s.n3 s.c3,.slice s.a4 s.n4 s.c4,.slice s.a5 s.n5 s.c5,.slice s.a6 s.n6 s.c6,.slice s.a7 s.n7 s.c7,.int .i64 x.need,.int .i64 x.nomap,.int .i64 x.noany,.slice s.a8 s.n8 s.c8,.slice s.a9 s.n9 s.c9] (0,0) _ L0.out Tryz.underlying34 rfl infoSizeL9 ?_) | fail)
 refine (HSZ.out _ B0.out).mono ?_
 rintro e w1 ⟨r,rfl,hr,hb1⟩
 have B1:Hid (Below w.heap.size w w1):=B0.out.trans (hb1.mono B0.out.size)
 have L1:Hid (w1.heap[w.heap.size]? = some (.cells #[.int .i64 x.ser,.slice s.a1 s.n1 s.c1,.slice s.a2 s.n2 s.c2,.int .i64 x.frm,.int .i64 x.til,.int .i64 x.key.1,.int .u64 x.key.2.1,.int .i64 x.key.2.2,.bool x.ca,.int .i64 x.room,.int .i64 x.uses,.slice s.a3 s.n3 s.c3,.slice s.a4 s.n4 s.c4,.slice s.a5 s.n5 s.c5,.slice s.a6 s.n6 s.c6,.slice s.a7 s.n7 s.c7,.int .i64 x.need,.int .i64 x.nomap,.int .i64 x.noany,.slice s.a8 s.n8 s.c8,.slice s.a9 s.n9 s.c9] 34 (0,0))):=(hb1.block _ (Array.getElem?_eq_some_iff.1 L0.out).1).trans L0.out
 clear hb1 B0 L0 HSZ
 by_cases hneg:r<0
 ·clear hr
  go_wp2
  go_ret
  exact ⟨rfl,B1.out⟩
 have HZ:Hid (CEZ x):=by rcases hr with h | h; exact absurd h hneg; exact h.2.2
 clear hr
 have HTO:Hid (∀ W,Below w.heap.size w W→Calls Tryz.prog 10 #[.agg #[.int .i64 x.ser,.slice s.a1 s.n1 s.c1,.slice s.a2 s.n2 s.c2,.int .i64 x.frm,.int .i64 x.til,.int .i64 x.key.1,.int .u64 x.key.2.1,.int .i64 x.key.2.2,.bool x.ca,.int .i64 x.room,.int .i64 x.uses,.slice s.a3 s.n3 s.c3,.slice s.a4 s.n4 s.c4,.slice s.a5 s.n5 s.c5,.slice s.a6 s.n6 s.c6,.slice s.a7 s.n7 s.c7,.int .i64 x.need,.int .i64 x.nomap,.int .i64 x.noany,.slice s.a8 s.n8 s.c8,.slice s.a9 s.n9 s.c9]] W fun e w'=>∃ t:CES,e=.returned (CEv t x)∧CET t∧CER w' t x∧Below W.heap.size W w'):=fun W hW=>(toCert_k s x W (HK.out.kept hW) HZ.out).mono fun e w' ⟨t,h1,h2,h3,h4⟩=>⟨t,h1,h2,h3.now,h4⟩
 go_wp2_with (first | (refine wpList_load_row rfl 34 _ rfl w.heap.size rfl 34 #[.int .i64 x.ser,.slice s.a1 s.n1 s.c1,.slice s.a2 s.n2 s.c2,.int .i64 x.frm,.int .i64 x.til,.int .i64 x.key.1,.int .u64 x.key.2.1,.int .i64 x.key.2.2,.bool x.ca,.int .i64 x.room,.int .i64 x.uses,.slice s.a3 s.n3 s.c3,.slice s.a4 s.n4 s.c4,.slice s.a5 s.n5 s.c5,.slice s.a6 s.n6 s.c6,.slice s.a7 s.n7 s.c7,.int .i64 x.need,.int .i64 x.nomap,.int .i64 x.noany,.slice s.a8 s.n8 s.c8,.slice s.a9 s.n9 s.c9] (0,0) _ L1.out Tryz.underlying34 rfl infoSizeL9 ?_) | fail)
 refine (HTO.out _ B1.out).mono ?_
 rintro e w2 ⟨t1,rfl,ht1,hk2,hb2⟩
 have B2:Hid (Below w.heap.size w w2):=B1.out.trans (hb2.mono B1.out.size)
 have L2:Hid (w2.heap[w.heap.size]? = some (.cells #[.int .i64 x.ser,.slice s.a1 s.n1 s.c1,.slice s.a2 s.n2 s.c2,.int .i64 x.frm,.int .i64 x.til,.int .i64 x.key.1,.int .u64 x.key.2.1,.int .i64 x.key.2.2,.bool x.ca,.int .i64 x.room,.int .i64 x.uses,.slice s.a3 s.n3 s.c3,.slice s.a4 s.n4 s.c4,.slice s.a5 s.n5 s.c5,.slice s.a6 s.n6 s.c6,.slice s.a7 s.n7 s.c7,.int .i64 x.need,.int .i64 x.nomap,.int .i64 x.noany,.slice s.a8 s.n8 s.c8,.slice s.a9 s.n9 s.c9] 34 (0,0))):=(hb2.block _ (Array.getElem?_eq_some_iff.1 L1.out).1).trans L1.out
 have S2:Hid (Calls Tryz.prog 19 #[CEv t1 x] w2 fun e w'=>e=.returned (.int .u64 vf)∧Below w2.heap.size w2 w'):=by rw [HVF.out]; exact specFinger_any t1 x bo l w2 hk2 HZ.out ht1 HU.out HCB.out hcl
 clear hb2 hk2 ht1 B1 L1
 go_wp2_with fail
 refine S2.out.mono ?_
 rintro e w3 ⟨rfl,hb3⟩
 have B3:Hid (Below w.heap.size w w3):=B2.out.trans (hb3.mono B2.out.size)
 have L3:Hid (w3.heap[w.heap.size]? = some (.cells #[.int .i64 x.ser,.slice s.a1 s.n1 s.c1,.slice s.a2 s.n2 s.c2,.int .i64 x.frm,.int .i64 x.til,.int .i64 x.key.1,.int .u64 x.key.2.1,.int .i64 x.key.2.2,.bool x.ca,.int .i64 x.room,.int .i64 x.uses,.slice s.a3 s.n3 s.c3,.slice s.a4 s.n4 s.c4,.slice s.a5 s.n5 s.c5,.slice s.a6 s.n6 s.c6,.slice s.a7 s.n7 s.c7,.int .i64 x.need,.int .i64 x.nomap,.int .i64 x.noany,.slice s.a8 s.n8 s.c8,.slice s.a9 s.n9 s.c9] 34 (0,0))):=(hb3.block _ (Array.getElem?_eq_some_iff.1 L2.out).1).trans L2.out
 clear hb3 S2 B2 L2
 go_wp2_with (first | (refine wpList_load_row rfl 34 _ rfl w.heap.size rfl 34 #[.int .i64 x.ser,.slice s.a1 s.n1 s.c1,.slice s.a2 s.n2 s.c2,.int .i64 x.frm,.int .i64 x.til,.int .i64 x.key.1,.int .u64 x.key.2.1,.int .i64 x.key.2.2,.bool x.ca,.int .i64 x.room,.int .i64 x.uses,.slice s.a3 s.n3 s.c3,.slice s.a4 s.n4 s.c4,.slice s.a5 s.n5 s.c5,.slice s.a6 s.n6 s.c6,.slice s.a7 s.n7 s.c7,.int .i64 x.need,.int .i64 x.nomap,.int .i64 x.noany,.slice s.a8 s.n8 s.c8,.slice s.a9 s.n9 s.c9] (0,0) _ L3.out Tryz.underlying34 rfl infoSizeL9 ?_) | fail)
 refine (HTO.out _ B3.out).mono ?_
 rintro e w4 ⟨t,rfl,ht,hk4,hb4⟩
 have B4:Hid (Below w.heap.size w w4):=B3.out.trans (hb4.mono B3.out.size)
 have L4:Hid (w4.heap[w.heap.size]? = some (.cells #[.int .i64 x.ser,.slice s.a1 s.n1 s.c1,.slice s.a2 s.n2 s.c2,.int .i64 x.frm,.int .i64 x.til,.int .i64 x.key.1,.int .u64 x.key.2.1,.int .i64 x.key.2.2,.bool x.ca,.int .i64 x.room,.int .i64 x.uses,.slice s.a3 s.n3 s.c3,.slice s.a4 s.n4 s.c4,.slice s.a5 s.n5 s.c5,.slice s.a6 s.n6 s.c6,.slice s.a7 s.n7 s.c7,.int .i64 x.need,.int .i64 x.nomap,.int .i64 x.noany,.slice s.a8 s.n8 s.c8,.slice s.a9 s.n9 s.c9] 34 (0,0))):=(hb4.block _ (Array.getElem?_eq_some_iff.1 L3.out).1).trans L3.out
 have hz4:(w4.alloc (.cells #[.int .i64 0,.slice none 0 0,.slice none 0 0,.int .i64 0,.int .i64 0,.int .i64 0,.int .u64 0,.int .i64 0,.bool false,.int .i64 0,.int .i64 0,.slice none 0 0,.slice none 0 0,.slice none 0 0,.slice none 0 0,.slice none 0 0,.int .i64 0,.int .i64 0,.int .i64 0,.slice none 0 0,.slice none 0 0] 46)).heap[w4.heap.size]? = some (.cells #[.int .i64 0,.slice none 0 0,.slice none 0 0,.int .i64 0,.int .i64 0,.int .i64 0,.int .u64 0,.int .i64 0,.bool false,.int .i64 0,.int .i64 0,.slice none 0 0,.slice none 0 0,.slice none 0 0,.slice none 0 0,.slice none 0 0,.int .i64 0,.int .i64 0,.int .i64 0,.slice none 0 0,.slice none 0 0] 46 (0,0)):=heap_alloc_new w4 _
 have HZ4:Hid (_=_):=hz4
 obtain ⟨w5,hw5⟩:∃ w5,w5=(w4.alloc (.cells #[.int .i64 0,.slice none 0 0,.slice none 0 0,.int .i64 0,.int .i64 0,.int .i64 0,.int .u64 0,.int .i64 0,.bool false,.int .i64 0,.int .i64 0,.slice none 0 0,.slice none 0 0,.slice none 0 0,.slice none 0 0,.slice none 0 0,.int .i64 0,.int .i64 0,.int .i64 0,.slice none 0 0,.slice none 0 0] 46)).setRow w4.heap.size #[.int .i64 x.ser,.slice t.a1 t.n1 t.c1,.slice t.a2 t.n2 t.c2,.int .i64 x.frm,.int .i64 x.til,.int .i64 x.key.1,.int .u64 x.key.2.1,.int .i64 x.key.2.2,.bool x.ca,.int .i64 x.room,.int .i64 x.uses,.slice t.a3 t.n3 t.c3,.slice t.a4 t.n4 t.c4,.slice t.a5 t.n5 t.c5,.slice t.a6 t.n6 t.c6,.slice t.a7 t.n7 t.c7,.int .i64 x.need,.int .i64 x.nomap,.int .i64 x.noany,.slice t.a8 t.n8 t.c8,.slice t.a9 t.n9 t.c9]:=⟨_,rfl⟩
 have hb5:Below w4.heap.size w4 w5:=by rw [hw5]; exact below_setRow ((Below.refl _ _).alloc (Nat.le_refl _) _) (Nat.le_refl _) _
 have X5:Hid (w5.heap[w4.heap.size]? = some (.cells #[.int .i64 x.ser,.slice t.a1 t.n1 t.c1,.slice t.a2 t.n2 t.c2,.int .i64 x.frm,.int .i64 x.til,.int .i64 x.key.1,.int .u64 x.key.2.1,.int .i64 x.key.2.2,.bool x.ca,.int .i64 x.room,.int .i64 x.uses,.slice t.a3 t.n3 t.c3,.slice t.a4 t.n4 t.c4,.slice t.a5 t.n5 t.c5,.slice t.a6 t.n6 t.c6,.slice t.a7 t.n7 t.c7,.int .i64 x.need,.int .i64 x.nomap,.int .i64 x.noany,.slice t.a8 t.n8 t.c8,.slice t.a9 t.n9 t.c9] 46 (0,0))):=by show _=_; rw [hw5]; exact setRow_heap _ _ _ _ _ _ hz4
 have B5:Hid (Below w.heap.size w w5):=B4.out.trans (hb5.mono B4.out.size)
 have L5:Hid (w5.heap[w.heap.size]? = some (.cells #[.int .i64 x.ser,.slice s.a1 s.n1 s.c1,.slice s.a2 s.n2 s.c2,.int .i64 x.frm,.int .i64 x.til,.int .i64 x.key.1,.int .u64 x.key.2.1,.int .i64 x.key.2.2,.bool x.ca,.int .i64 x.room,.int .i64 x.uses,.slice s.a3 s.n3 s.c3,.slice s.a4 s.n4 s.c4,.slice s.a5 s.n5 s.c5,.slice s.a6 s.n6 s.c6,.slice s.a7 s.n7 s.c7,.int .i64 x.need,.int .i64 x.nomap,.int .i64 x.noany,.slice s.a8 s.n8 s.c8,.slice s.a9 s.n9 s.c9] 34 (0,0))):=(hb5.block _ (Array.getElem?_eq_some_iff.1 L4.out).1).trans L4.out
 have K5:Hid (CER w5 t x):=hk4.kept hb5
 have I5:Hid (Calls Tryz.prog 20 #[.agg #[.int .i64 x.ser,.slice t.a1 t.n1 t.c1,.slice t.a2 t.n2 t.c2,.int .i64 x.frm,.int .i64 x.til,.int .i64 x.key.1,.int .u64 x.key.2.1,.int .i64 x.key.2.2,.bool x.ca,.int .i64 x.room,.int .i64 x.uses,.slice t.a3 t.n3 t.c3,.slice t.a4 t.n4 t.c4,.slice t.a5 t.n5 t.c5,.slice t.a6 t.n6 t.c6,.slice t.a7 t.n7 t.c7,.int .i64 x.need,.int .i64 x.nomap,.int .i64 x.noany,.slice t.a8 t.n8 t.c8,.slice t.a9 t.n9 t.c9]] w5 fun e w'=>e=.returned (.int .u64 vf)∧Below w5.heap.size w5 w'):=by rw [HVF.out]; exact implFinger_any t x bo l w5 (HM.out _ B5.out) K5.out HZ.out ht HU.out HCB.out hcl
 have HW5:Hid (_=_):=hw5
 clear hw5 hb4 hb5 hk4 B3 L3 B4 L4 hz4
 go_upto_region 7 with (first | (refine wpList_store_rowTo rfl 46 _ _ rfl rfl w4.heap.size #[.int .i64 x.ser,.slice t.a1 t.n1 t.c1,.slice t.a2 t.n2 t.c2,.int .i64 x.frm,.int .i64 x.til,.int .i64 x.key.1,.int .u64 x.key.2.1,.int .i64 x.key.2.2,.bool x.ca,.int .i64 x.room,.int .i64 x.uses,.slice t.a3 t.n3 t.c3,.slice t.a4 t.n4 t.c4,.slice t.a5 t.n5 t.c5,.slice t.a6 t.n6 t.c6,.slice t.a7 t.n7 t.c7,.int .i64 x.need,.int .i64 x.nomap,.int .i64 x.noany,.slice t.a8 t.n8 t.c8,.slice t.a9 t.n9 t.c9] rfl rfl 46 #[.int .i64 0,.slice none 0 0,.slice none 0 0,.int .i64 0,.int .i64 0,.int .i64 0,.int .u64 0,.int .i64 0,.bool false,.int .i64 0,.int .i64 0,.slice none 0 0,.slice none 0 0,.slice none 0 0,.slice none 0 0,.slice none 0 0,.int .i64 0,.int .i64 0,.int .i64 0,.slice none 0 0,.slice none 0 0] HZ4.out infoSize9 rfl (by simp [Value.oneCell']) ?_) | fail)
 rw [← HW5.out]
 clear HW5
 go_wp2_with (first | (refine wpList_load_row rfl 46 _ rfl w4.heap.size rfl 46 #[.int .i64 x.ser,.slice t.a1 t.n1 t.c1,.slice t.a2 t.n2 t.c2,.int .i64 x.frm,.int .i64 x.til,.int .i64 x.key.1,.int .u64 x.key.2.1,.int .i64 x.key.2.2,.bool x.ca,.int .i64 x.room,.int .i64 x.uses,.slice t.a3 t.n3 t.c3,.slice t.a4 t.n4 t.c4,.slice t.a5 t.n5 t.c5,.slice t.a6 t.n6 t.c6,.slice t.a7 t.n7 t.c7,.int .i64 x.need,.int .i64 x.nomap,.int .i64 x.noany,.slice t.a8 t.n8 t.c8,.slice t.a9 t.n9 t.c9] (0,0) _ X5.out Tryz.underlying46 rfl infoSize9 ?_) | fail)
 refine I5.out.mono ?_
 rintro e w6 ⟨rfl,hb6⟩
 have B6:Hid (Below w.heap.size w w6):=B5.out.trans (hb6.mono B5.out.size)
 have L6:Hid (w6.heap[w.heap.size]? = some (.cells #[.int .i64 x.ser,.slice s.a1 s.n1 s.c1,.slice s.a2 s.n2 s.c2,.int .i64 x.frm,.int .i64 x.til,.int .i64 x.key.1,.int .u64 x.key.2.1,.int .i64 x.key.2.2,.bool x.ca,.int .i64 x.room,.int .i64 x.uses,.slice s.a3 s.n3 s.c3,.slice s.a4 s.n4 s.c4,.slice s.a5 s.n5 s.c5,.slice s.a6 s.n6 s.c6,.slice s.a7 s.n7 s.c7,.int .i64 x.need,.int .i64 x.nomap,.int .i64 x.noany,.slice s.a8 s.n8 s.c8,.slice s.a9 s.n9 s.c9] 34 (0,0))):=(hb6.block _ (Array.getElem?_eq_some_iff.1 L5.out).1).trans L5.out
 have X6:Hid (w6.heap[w4.heap.size]? = some (.cells #[.int .i64 x.ser,.slice t.a1 t.n1 t.c1,.slice t.a2 t.n2 t.c2,.int .i64 x.frm,.int .i64 x.til,.int .i64 x.key.1,.int .u64 x.key.2.1,.int .i64 x.key.2.2,.bool x.ca,.int .i64 x.room,.int .i64 x.uses,.slice t.a3 t.n3 t.c3,.slice t.a4 t.n4 t.c4,.slice t.a5 t.n5 t.c5,.slice t.a6 t.n6 t.c6,.slice t.a7 t.n7 t.c7,.int .i64 x.need,.int .i64 x.nomap,.int .i64 x.noany,.slice t.a8 t.n8 t.c8,.slice t.a9 t.n9 t.c9] 46 (0,0))):=(hb6.block _ (Array.getElem?_eq_some_iff.1 X5.out).1).trans X5.out
 have K6:Hid (CER w6 t x):=K5.out.kept hb6
 have tne:(vf != vf)=false:=by simp
 have HTD:Hid (∀ W,Below w6.heap.size w6 W→Calls Tryz.prog 10 #[.agg #[.int .i64 x.ser,.slice s.a1 s.n1 s.c1,.slice s.a2 s.n2 s.c2,.int .i64 x.frm,.int .i64 x.til,.int .i64 x.key.1,.int .u64 x.key.2.1,.int .i64 x.key.2.2,.bool x.ca,.int .i64 x.room,.int .i64 x.uses,.slice s.a3 s.n3 s.c3,.slice s.a4 s.n4 s.c4,.slice s.a5 s.n5 s.c5,.slice s.a6 s.n6 s.c6,.slice s.a7 s.n7 s.c7,.int .i64 x.need,.int .i64 x.nomap,.int .i64 x.noany,.slice s.a8 s.n8 s.c8,.slice s.a9 s.n9 s.c9]] W fun e w'=>∃ u:CES,e=.returned (CEv u x)∧CER w' u x∧Below W.heap.size W w'):=fun W hW=>(HTO.out W (B6.out.trans (hW.mono B6.out.size))).mono fun e w' ⟨u,h1,h2,h3,h4⟩=>⟨u,h1,h3,h4⟩
 have HEQ:Hid (∀ W (u:CES),Below w6.heap.size w6 W→CER W u x→Calls Tryz.prog 13 #[.agg #[.int .i64 x.ser,.slice t.a1 t.n1 t.c1,.slice t.a2 t.n2 t.c2,.int .i64 x.frm,.int .i64 x.til,.int .i64 x.key.1,.int .u64 x.key.2.1,.int .i64 x.key.2.2,.bool x.ca,.int .i64 x.room,.int .i64 x.uses,.slice t.a3 t.n3 t.c3,.slice t.a4 t.n4 t.c4,.slice t.a5 t.n5 t.c5,.slice t.a6 t.n6 t.c6,.slice t.a7 t.n7 t.c7,.int .i64 x.need,.int .i64 x.nomap,.int .i64 x.noany,.slice t.a8 t.n8 t.c8,.slice t.a9 t.n9 t.c9],CEv u x] W fun e w'=>e=.returned (.bool true)∧Below W.heap.size W w'):=fun W u hW hu=>eqCert_k t u x W (K6.out.kept hW) hu HZ.out
 have HBB:w6.heap.size≤w6.heap.size:=Nat.le_refl _
 clear hb6 I5 B5 L5 X5 K5
 go_upto_region 10 with fail
 refine wp_region_ri (lf10 s t x w4.heap.size w.heap.size (w6.heap.size)) [22,23,24,25,26] (w6.heap.size) (fun a0=>a0.tmps.size=27∧aT a0 1=.pointer (some ⟨w.heap.size,0,none⟩)∧aT a0 5=.pointer (some ⟨w4.heap.size,0,none⟩)) (by kernel_rfl) rfl (by kernel_rfl) rfl ⟨rfl,rfl,rfl⟩ (lf10_stb s t x w4.heap.size w.heap.size (w6.heap.size)) ?_ ?_ ?_
 ·intro k hk hk2
  match k,hk,hk2 with
  | 5,_,_=>exact X6.out
  | 6,_,_=>exact L6.out
  | 0,hk,_=>exact absurd hk (by show ¬ (5≤0); omega)
  | 1,hk,_=>exact absurd hk (by show ¬ (5≤1); omega)
  | 2,hk,_=>exact absurd hk (by show ¬ (5≤2); omega)
  | 3,hk,_=>exact absurd hk (by show ¬ (5≤3); omega)
  | 4,hk,_=>exact absurd hk (by show ¬ (5≤4); omega)
  | k+7,_,hk2=>exact absurd hk2 (by show ¬ (k+7<7); omega)
 ·rintro a0 ⟨hz,g1,g5⟩
  refine StepsRI.cons ?_ (StepsRI.cons ?_ (StepsRI.cons ?_ (StepsRI.cons ?_ (StepsRI.cons ?_ (StepsRI.nil)))))
  ·intro lQ b W hI hUN hED KQ hKQ
   have hg:=(hI.vot 5 (of_decide_eq_true rfl) (of_decide_eq_true rfl) rfl)
   refine wp_load_row 46 _ rfl (w4.heap.size) ((hI.fr.same 5 (by decide)).trans g5) 46 #[.int .i64 x.ser,.slice t.a1 t.n1 t.c1,.slice t.a2 t.n2 t.c2,.int .i64 x.frm,.int .i64 x.til,.int .i64 x.key.1,.int .u64 x.key.2.1,.int .i64 x.key.2.2,.bool x.ca,.int .i64 x.room,.int .i64 x.uses,.slice t.a3 t.n3 t.c3,.slice t.a4 t.n4 t.c4,.slice t.a5 t.n5 t.c5,.slice t.a6 t.n6 t.c6,.slice t.a7 t.n7 t.c7,.int .i64 x.need,.int .i64 x.nomap,.int .i64 x.noany,.slice t.a8 t.n8 t.c8,.slice t.a9 t.n9 t.c9] (0,0) _ hg Tryz.underlying46 rfl (by kernel_rfl) ?_
   exact hKQ.out _ _ (hI.put 0 22 rfl rfl (by rw [hz]; decide) rfl hUN rfl HBB (lf10_stb s t x w4.heap.size w.heap.size (w6.heap.size)) (Below.refl _ _) rfl)
  ·intro lQ b W hI hUN hED KQ hKQ
   have hg:=(hI.vot 6 (of_decide_eq_true rfl) (of_decide_eq_true rfl) rfl)
   refine wp_load_row 34 _ rfl (w.heap.size) ((hI.fr.same 1 (by decide)).trans g1) 34 #[.int .i64 x.ser,.slice s.a1 s.n1 s.c1,.slice s.a2 s.n2 s.c2,.int .i64 x.frm,.int .i64 x.til,.int .i64 x.key.1,.int .u64 x.key.2.1,.int .i64 x.key.2.2,.bool x.ca,.int .i64 x.room,.int .i64 x.uses,.slice s.a3 s.n3 s.c3,.slice s.a4 s.n4 s.c4,.slice s.a5 s.n5 s.c5,.slice s.a6 s.n6 s.c6,.slice s.a7 s.n7 s.c7,.int .i64 x.need,.int .i64 x.nomap,.int .i64 x.noany,.slice s.a8 s.n8 s.c8,.slice s.a9 s.n9 s.c9] (0,0) _ hg Tryz.underlying34 rfl (by kernel_rfl) ?_
   exact hKQ.out _ _ (hI.put 1 23 rfl rfl (by rw [hz]; decide) rfl hUN rfl HBB (lf10_stb s t x w4.heap.size w.heap.size (w6.heap.size)) (Below.refl _ _) rfl)
  ·intro lQ b W hI hUN hED KQ hKQ
   have f0:=hI.got 1 (of_decide_eq_true rfl) (edge hED 1 (by kernel_rfl)) rfl
   replace f0:aT b 23=.agg #[.int .i64 x.ser,.slice s.a1 s.n1 s.c1,.slice s.a2 s.n2 s.c2,.int .i64 x.frm,.int .i64 x.til,.int .i64 x.key.1,.int .u64 x.key.2.1,.int .i64 x.key.2.2,.bool x.ca,.int .i64 x.room,.int .i64 x.uses,.slice s.a3 s.n3 s.c3,.slice s.a4 s.n4 s.c4,.slice s.a5 s.n5 s.c5,.slice s.a6 s.n6 s.c6,.slice s.a7 s.n7 s.c7,.int .i64 x.need,.int .i64 x.nomap,.int .i64 x.noany,.slice s.a8 s.n8 s.c8,.slice s.a9 s.n9 s.c9]:=f0
   refine opw_call 10 #[.tmp 23] _ _ _ rfl Tryz.func10 (by kernel_rfl) rfl #[.agg #[.int .i64 x.ser,.slice s.a1 s.n1 s.c1,.slice s.a2 s.n2 s.c2,.int .i64 x.frm,.int .i64 x.til,.int .i64 x.key.1,.int .u64 x.key.2.1,.int .i64 x.key.2.2,.bool x.ca,.int .i64 x.room,.int .i64 x.uses,.slice s.a3 s.n3 s.c3,.slice s.a4 s.n4 s.c4,.slice s.a5 s.n5 s.c5,.slice s.a6 s.n6 s.c6,.slice s.a7 s.n7 s.c7,.int .i64 x.need,.int .i64 x.nomap,.int .i64 x.noany,.slice s.a8 s.n8 s.c8,.slice s.a9 s.n9 s.c9]] (by simp [ev,f0]) ?_
   refine (HTD.out W hI.bel).mono ?_
   rintro e W2 ⟨u,rfl,hk,hb⟩
   exact ⟨_,rfl,hKQ.out _ _ (hI.put 2 24 rfl rfl (by rw [hz]; decide) rfl hUN rfl HBB (lf10_stb s t x w4.heap.size w.heap.size (w6.heap.size)) hb ⟨u,rfl,hk⟩)⟩
  ·intro lQ b W hI hUN hED KQ hKQ
   have f0:=hI.got 0 (of_decide_eq_true rfl) (edge hED 0 (by kernel_rfl)) rfl
   replace f0:aT b 22=.agg #[.int .i64 x.ser,.slice t.a1 t.n1 t.c1,.slice t.a2 t.n2 t.c2,.int .i64 x.frm,.int .i64 x.til,.int .i64 x.key.1,.int .u64 x.key.2.1,.int .i64 x.key.2.2,.bool x.ca,.int .i64 x.room,.int .i64 x.uses,.slice t.a3 t.n3 t.c3,.slice t.a4 t.n4 t.c4,.slice t.a5 t.n5 t.c5,.slice t.a6 t.n6 t.c6,.slice t.a7 t.n7 t.c7,.int .i64 x.need,.int .i64 x.nomap,.int .i64 x.noany,.slice t.a8 t.n8 t.c8,.slice t.a9 t.n9 t.c9]:=f0
   have f1:=hI.got 2 (of_decide_eq_true rfl) (edge hED 2 (by kernel_rfl)) rfl
   obtain ⟨u,f1,o1_0⟩:=f1
   replace f1:aT b 24=CEv u x:=f1
   refine opw_call 13 #[.tmp 22,.tmp 24] _ _ _ rfl Tryz.func13 (by kernel_rfl) rfl #[.agg #[.int .i64 x.ser,.slice t.a1 t.n1 t.c1,.slice t.a2 t.n2 t.c2,.int .i64 x.frm,.int .i64 x.til,.int .i64 x.key.1,.int .u64 x.key.2.1,.int .i64 x.key.2.2,.bool x.ca,.int .i64 x.room,.int .i64 x.uses,.slice t.a3 t.n3 t.c3,.slice t.a4 t.n4 t.c4,.slice t.a5 t.n5 t.c5,.slice t.a6 t.n6 t.c6,.slice t.a7 t.n7 t.c7,.int .i64 x.need,.int .i64 x.nomap,.int .i64 x.noany,.slice t.a8 t.n8 t.c8,.slice t.a9 t.n9 t.c9],CEv u x] (by simp [ev,f0,f1]) ?_
   refine (HEQ.out W u hI.bel o1_0).mono ?_
   rintro e W2 ⟨rfl,hb⟩
   exact ⟨_,rfl,hKQ.out _ _ (hI.put 3 25 rfl rfl (by rw [hz]; decide) rfl hUN rfl HBB (lf10_stb s t x w4.heap.size w.heap.size (w6.heap.size)) hb rfl)⟩
  ·intro lQ b W hI hUN hED KQ hKQ
   have f:aT b 25=.bool true:=hI.got 3 (of_decide_eq_true rfl) (edge hED 3 (by kernel_rfl)) rfl
   exact opw_not _ 25 rfl true f (hKQ.out _ _ (hI.put 4 26 rfl rfl (by rw [hz]; decide) rfl hUN rfl HBB (lf10_stb s t x w4.heap.size w.heap.size (w6.heap.size)) (Below.refl _ _) rfl))
 ·intro b W hf hb F
  have e26:aT b 26=.bool false:=F 4 (of_decide_eq_true rfl) rfl
  rw [hf.eq]
  simp only [puts,Act.put,List.setIfInBounds_toArray,List.set_cons_zero,List.set_cons_succ,e26]
  clear hf F e26
  generalize aT b=AT
  clear b
  go_wp2
  go_ret
  exact ⟨rfl,B6.out.trans (hb.mono B6.out.size)⟩
end Go.Proofs.YtmdfbnlgfhjnoaaGreatDoor
