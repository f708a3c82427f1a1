import Derived.Laws.Rows
import Derived.Test.YtmdfbnlgfhjnoaaGreatDoorFB45
import Derived.Test.YtmdfbnlgfhjnoaaGreatDoorFB47
import Derived.Test.YtmdfbnlgfhjnoaaGreatDoorFB34
import Derived.Test.YtmdfbnlgfhjnoaaGreatDoorFB09
set_option maxRecDepth 10000
set_option maxHeartbeats 8000000
set_option linter.unusedVariables false
namespace Go.Proofs.YtmdfbnlgfhjnoaaGreatDoor
open Go.RowKit Go.Sort
def lb2 (s t:CES)(x:CE)(gx G B:Nat):RSpec where
 m:=5
 n:=7
 slots:=[41,42,43,44,45,100005,100006]
 kills:=[[],[],[],[],[],[],[]]
 pres:=[[],[],[],[],[],[],[]]
 fact:=fun k v w=>match k with
  | 0=>v=.agg #[.int .i64 x.ser,.slice t.a1 t.n1 t.c1,.slice t.a2 t.n2 t.c2,.int .i64 x.frm,.int .i64 x.til,.int .i64 x.key.1,.int .u64 x.key.2.1,.int .i64 x.key.2.2,.bool x.ca,.int .i64 x.room,.int .i64 x.uses,.slice t.a3 t.n3 t.c3,.slice t.a4 t.n4 t.c4,.slice t.a5 t.n5 t.c5,.slice t.a6 t.n6 t.c6,.slice t.a7 t.n7 t.c7,.int .i64 x.need,.int .i64 x.nomap,.int .i64 x.noany,.slice t.a8 t.n8 t.c8,.slice t.a9 t.n9 t.c9]
  | 1=>v=.agg #[.int .i64 x.ser,.slice s.a1 s.n1 s.c1,.slice s.a2 s.n2 s.c2,.int .i64 x.frm,.int .i64 x.til,.int .i64 x.key.1,.int .u64 x.key.2.1,.int .i64 x.key.2.2,.bool x.ca,.int .i64 x.room,.int .i64 x.uses,.slice s.a3 s.n3 s.c3,.slice s.a4 s.n4 s.c4,.slice s.a5 s.n5 s.c5,.slice s.a6 s.n6 s.c6,.slice s.a7 s.n7 s.c7,.int .i64 x.need,.int .i64 x.nomap,.int .i64 x.noany,.slice s.a8 s.n8 s.c8,.slice s.a9 s.n9 s.c9]
  | 2=>∃ (u:CES),v=CEv u x∧CER w u x
  | 3=>v=.bool true
  | 4=>v=.bool false
  | 5=>w.heap[gx]? = some (.cells #[.int .i64 x.ser,.slice t.a1 t.n1 t.c1,.slice t.a2 t.n2 t.c2,.int .i64 x.frm,.int .i64 x.til,.int .i64 x.key.1,.int .u64 x.key.2.1,.int .i64 x.key.2.2,.bool x.ca,.int .i64 x.room,.int .i64 x.uses,.slice t.a3 t.n3 t.c3,.slice t.a4 t.n4 t.c4,.slice t.a5 t.n5 t.c5,.slice t.a6 t.n6 t.c6,.slice t.a7 t.n7 t.c7,.int .i64 x.need,.int .i64 x.nomap,.int .i64 x.noany,.slice t.a8 t.n8 t.c8,.slice t.a9 t.n9 t.c9] 46 (0,0))
  | _=>w.heap[G]? = some (.cells #[.int .i64 x.ser,.slice s.a1 s.n1 s.c1,.slice s.a2 s.n2 s.c2,.int .i64 x.frm,.int .i64 x.til,.int .i64 x.key.1,.int .u64 x.key.2.1,.int .i64 x.key.2.2,.bool x.ca,.int .i64 x.room,.int .i64 x.uses,.slice s.a3 s.n3 s.c3,.slice s.a4 s.n4 s.c4,.slice s.a5 s.n5 s.c5,.slice s.a6 s.n6 s.c6,.slice s.a7 s.n7 s.c7,.int .i64 x.need,.int .i64 x.nomap,.int .i64 x.noany,.slice s.a8 s.n8 s.c8,.slice s.a9 s.n9 s.c9] 34 (0,0))
theorem lb2_stb (s t:CES)(x:CE)(gx G B:Nat)(k:Nat)(hk:k<7):StB ((lb2 s t x gx G (B)).fact k):=by
 match k,hk with
 | 0,_=>exact fun _ _ _ h _=>h
 | 1,_=>exact fun _ _ _ h _=>h
 | 2,_=>exact fun _ _ _ ⟨u,hv,q_0⟩ hb=>⟨u,hv,q_0.kept hb⟩
 | 3,_=>exact fun _ _ _ h _=>h
 | 4,_=>exact fun _ _ _ h _=>h
 | 5,_=>exact fun _ _ _ q_0 hb=>below_kept q_0 hb
 | 6,_=>exact fun _ _ _ q_0 hb=>below_kept q_0 hb
 | k+7,hk=>omega
theorem lawCertBytes_walk (s:CES)(x:CE)(w:World)(hm:MaxW w)(hu:U64 x.key.2.1)(h:CER w s x) :
  Calls Tryz.prog 4 #[CEv s x] w fun e w'=>e=.returned (.bool true)∧Below w.heap.size w w':=by
 obtain ⟨bo,l,hcb,hcl⟩:=cbR_any 2 x
 have hlm:l.length≤maxLen:=by unfold maxLen; omega
 have HCB:Hid (CbR 2 x bo l):=hcb
 have HK:Hid (CER w s x):=h
 have HM:Hid (∀ W,Below w.heap.size w W→MaxW W):=fun W hW=>hm.kept hW
 have HU:Hid (U64 x.key.2.1):=hu
 clear h hm hu hcb
 show Calls Tryz.prog 4 #[.agg #[.int .i64 x.ser,.slice s.a1 s.n1 s.c1,.slice s.a2 s.n2 s.c2,.int .i64 x.frm,.int .i64 x.til,.int .i64 x.key.1,.int .u64 x.key.2.1,.int .i64 x.key.2.2,.bool x.ca,.int .i64 x.room,.int .i64 x.uses,.slice s.a3 s.n3 s.c3,.slice s.a4 s.n4 s.c4,.slice s.a5 s.n5 s.c5,.slice s.a6 s.n6 s.c6,.slice s.a7 s.n7 s.c7,.int .i64 x.need,.int .i64 x.nomap,.int .i64 x.noany,.slice s.a8 s.n8 s.c8,.slice s.a9 s.n9 s.c9]] w _
 obtain ⟨w0,hw0⟩:∃ w0,w0=w.alloc (.cells #[.int .i64 x.ser,.slice s.a1 s.n1 s.c1,.slice s.a2 s.n2 s.c2,.int .i64 x.frm,.int .i64 x.til,.int .i64 x.key.1,.int .u64 x.key.2.1,.int .i64 x.key.2.2,.bool x.ca,.int .i64 x.room,.int .i64 x.uses,.slice s.a3 s.n3 s.c3,.slice s.a4 s.n4 s.c4,.slice s.a5 s.n5 s.c5,.slice s.a6 s.n6 s.c6,.slice s.a7 s.n7 s.c7,.int .i64 x.need,.int .i64 x.nomap,.int .i64 x.noany,.slice s.a8 s.n8 s.c8,.slice s.a9 s.n9 s.c9] 34):=⟨_,rfl⟩
 have B0:Hid (Below w.heap.size w w0):=by show Below _ _ _; rw [hw0]; exact (Below.refl _ _).alloc (Nat.le_refl _) _
 have L0:Hid (w0.heap[w.heap.size]? = some (.cells #[.int .i64 x.ser,.slice s.a1 s.n1 s.c1,.slice s.a2 s.n2 s.c2,.int .i64 x.frm,.int .i64 x.til,.int .i64 x.key.1,.int .u64 x.key.2.1,.int .i64 x.key.2.2,.bool x.ca,.int .i64 x.room,.int .i64 x.uses,.slice s.a3 s.n3 s.c3,.slice s.a4 s.n4 s.c4,.slice s.a5 s.n5 s.c5,.slice s.a6 s.n6 s.c6,.slice s.a7 s.n7 s.c7,.int .i64 x.need,.int .i64 x.nomap,.int .i64 x.noany,.slice s.a8 s.n8 s.c8,.slice s.a9 s.n9 s.c9] 34 (0,0))):=by show _=_; rw [hw0]; exact heap_alloc_new w _
 have hlt0:w.heap.size<w0.heap.size:=(Array.getElem?_eq_some_iff.1 L0.out).1
 have HSZ:Hid (∀ W,Below w.heap.size w W→Calls Tryz.prog 8 #[.agg #[.int .i64 x.ser,.slice s.a1 s.n1 s.c1,.slice s.a2 s.n2 s.c2,.int .i64 x.frm,.int .i64 x.til,.int .i64 x.key.1,.int .u64 x.key.2.1,.int .i64 x.key.2.2,.bool x.ca,.int .i64 x.room,.int .i64 x.uses,.slice s.a3 s.n3 s.c3,.slice s.a4 s.n4 s.c4,.slice s.a5 s.n5 s.c5,.slice s.a6 s.n6 s.c6,.slice s.a7 s.n7 s.c7,.int .i64 x.need,.int .i64 x.nomap,.int .i64 x.noany,.slice s.a8 s.n8 s.c8,.slice s.a9 s.n9 s.c9],.int .i64 1048576] W fun e w'=>∃ r,e=.returned (.int .i64 r)∧(r<0∨(0≤r∧r≤1048576∧CEZ x))∧Below W.heap.size W w'):=fun W hW=>szCert_k s x 1048576 W (HK.out.kept hW) (by decide) (by decide)
 go_enter Tryz.func4,Tryz.ntmps4
 go_upto_region 1 with fail
 rw [← hw0]
 clear hw0
 go_wp2_with (first | (refine wpList_load_row rfl 34 _ rfl w.heap.size rfl 34 #[.int .i64 x.ser,.slice s.a1 s.n1 s.c1,.slice s.a2 s.n2 s.c2,.int .i64 x.frm,.int .i64 x.til,.int .i64 x.key.1,.int .u64 x.key.2.1,.int .i64 x.key.2.2,.bool x.ca,.int .i64 x.room,.int .i64 x.uses,.slice s.a3 s.n3 s.c3,.slice s.a4 s.n4 s.c4,.slice s.a5 s.n5 s.c5,.slice s.a6 s.n6 s.c6,.slice s.a7 s.n7 s.c7,.int .i64 x.need,.int .i64 x.nomap,.int .i64 x.noany,.slice s.a8 s.n8 s.c8,.slice s.a9 s.n9 s.c9] (0,0) _ L0.out Tryz.underlying34 rfl infoSizeL9 ?_) | fail)
 refine (HSZ.out _ B0.out).mono ?_
 rintro e w1 ⟨r,rfl,hr,hb1⟩
 have B1:Hid (Below w.heap.size w w1):=B0.out.trans (hb1.mono B0.out.size)
 have L1:Hid (w1.heap[w.heap.size]? = some (.cells #[.int .i64 x.ser,.slice s.a1 s.n1 s.c1,.slice s.a2 s.n2 s.c2,.int .i64 x.frm,.int .i64 x.til,.int .i64 x.key.1,.int .u64 x.key.2.1,.int .i64 x.key.2.2,.bool x.ca,.int .i64 x.room,.int .i64 x.uses,.slice s.a3 s.n3 s.c3,.slice s.a4 s.n4 s.c4,.slice s.a5 s.n5 s.c5,.slice s.a6 s.n6 s.c6,.slice s.a7 s.n7 s.c7,.int .i64 x.need,.int .i64 x.nomap,.int .i64 x.noany,.slice s.a8 s.n8 s.c8,.slice s.a9 s.n9 s.c9] 34 (0,0))):=below_kept L0.out hb1
 have s01:=hb1.size
 clear hb1 B0 L0 HSZ
 by_cases hneg:r<0
 ·clear hr
  go_wp2
  go_ret
  exact ⟨rfl,B1.out⟩
 have HZ:Hid (CEZ x):=by rcases hr with h | h; exact absurd h hneg; exact h.2.2
 clear hr
 have HTO:Hid (∀ W,Below w.heap.size w W→Calls Tryz.prog 10 #[.agg #[.int .i64 x.ser,.slice s.a1 s.n1 s.c1,.slice s.a2 s.n2 s.c2,.int .i64 x.frm,.int .i64 x.til,.int .i64 x.key.1,.int .u64 x.key.2.1,.int .i64 x.key.2.2,.bool x.ca,.int .i64 x.room,.int .i64 x.uses,.slice s.a3 s.n3 s.c3,.slice s.a4 s.n4 s.c4,.slice s.a5 s.n5 s.c5,.slice s.a6 s.n6 s.c6,.slice s.a7 s.n7 s.c7,.int .i64 x.need,.int .i64 x.nomap,.int .i64 x.noany,.slice s.a8 s.n8 s.c8,.slice s.a9 s.n9 s.c9]] W fun e w'=>∃ t:CES,e=.returned (CEv t x)∧CET t∧CER w' t x∧Below W.heap.size W w'):=fun W hW=>(toCert_o s x W (HK.out.kept hW) HZ.out).mono fun e w' ⟨t,h1,h2,h3,h4⟩=>⟨t,h1,h2,h3.now.r,h4⟩
 have HTX:Hid (∀ W,Below w.heap.size w W→Calls Tryz.prog 10 #[.agg #[.int .i64 x.ser,.slice s.a1 s.n1 s.c1,.slice s.a2 s.n2 s.c2,.int .i64 x.frm,.int .i64 x.til,.int .i64 x.key.1,.int .u64 x.key.2.1,.int .i64 x.key.2.2,.bool x.ca,.int .i64 x.room,.int .i64 x.uses,.slice s.a3 s.n3 s.c3,.slice s.a4 s.n4 s.c4,.slice s.a5 s.n5 s.c5,.slice s.a6 s.n6 s.c6,.slice s.a7 s.n7 s.c7,.int .i64 x.need,.int .i64 x.nomap,.int .i64 x.noany,.slice s.a8 s.n8 s.c8,.slice s.a9 s.n9 s.c9]] W fun e w'=>∃ t:CES,e=.returned (CEv t x)∧CET t∧CEO W.heap.size w' t x∧Below W.heap.size W w'):=fun W hW=>(toCert_o s x W (HK.out.kept hW) HZ.out).mono fun e w' ⟨t,h1,h2,h3,h4⟩=>⟨t,h1,h2,h3.now,h4⟩
 go_wp2_with (first | (refine wpList_load_row rfl 34 _ rfl w.heap.size rfl 34 #[.int .i64 x.ser,.slice s.a1 s.n1 s.c1,.slice s.a2 s.n2 s.c2,.int .i64 x.frm,.int .i64 x.til,.int .i64 x.key.1,.int .u64 x.key.2.1,.int .i64 x.key.2.2,.bool x.ca,.int .i64 x.room,.int .i64 x.uses,.slice s.a3 s.n3 s.c3,.slice s.a4 s.n4 s.c4,.slice s.a5 s.n5 s.c5,.slice s.a6 s.n6 s.c6,.slice s.a7 s.n7 s.c7,.int .i64 x.need,.int .i64 x.nomap,.int .i64 x.noany,.slice s.a8 s.n8 s.c8,.slice s.a9 s.n9 s.c9] (0,0) _ L1.out Tryz.underlying34 rfl infoSizeL9 ?_) | fail)
 refine (HTO.out _ B1.out).mono ?_
 rintro e w2 ⟨t1,rfl,ht1,hk2,hb2⟩
 have B2:Hid (Below w.heap.size w w2):=B1.out.trans (hb2.mono B1.out.size)
 have L2:Hid (w2.heap[w.heap.size]? = some (.cells #[.int .i64 x.ser,.slice s.a1 s.n1 s.c1,.slice s.a2 s.n2 s.c2,.int .i64 x.frm,.int .i64 x.til,.int .i64 x.key.1,.int .u64 x.key.2.1,.int .i64 x.key.2.2,.bool x.ca,.int .i64 x.room,.int .i64 x.uses,.slice s.a3 s.n3 s.c3,.slice s.a4 s.n4 s.c4,.slice s.a5 s.n5 s.c5,.slice s.a6 s.n6 s.c6,.slice s.a7 s.n7 s.c7,.int .i64 x.need,.int .i64 x.nomap,.int .i64 x.noany,.slice s.a8 s.n8 s.c8,.slice s.a9 s.n9 s.c9] 34 (0,0))):=below_kept L1.out hb2
 have s12:=hb2.size
 have S2:Hid (Calls Tryz.prog 17 #[CEv t1 x] w2 fun e w'=>∃ a' c',e=.returned (.tuple #[.slice a' l.length c',.bool bo])∧Own w2.heap.size w' a' l.length c' l∧Below w2.heap.size w2 w'):=specCertBytes_any t1 x bo l w2 hk2 HZ.out ht1 HU.out HCB.out
 clear hb2 hk2 ht1 B1 L1
 go_wp2_with fail
 refine S2.out.mono ?_
 rintro e w3 ⟨aw,cw,rfl,ho3,hb3⟩
 have H03:Hid (Row w3 aw l.length l):=ho3.toRow
 have HI0:Hid (In aw l.length 0 w3.heap.size):=ho3.toRow.in_
 have B3:Hid (Below w.heap.size w w3):=B2.out.trans (hb3.mono B2.out.size)
 have L3:Hid (w3.heap[w.heap.size]? = some (.cells #[.int .i64 x.ser,.slice s.a1 s.n1 s.c1,.slice s.a2 s.n2 s.c2,.int .i64 x.frm,.int .i64 x.til,.int .i64 x.key.1,.int .u64 x.key.2.1,.int .i64 x.key.2.2,.bool x.ca,.int .i64 x.room,.int .i64 x.uses,.slice s.a3 s.n3 s.c3,.slice s.a4 s.n4 s.c4,.slice s.a5 s.n5 s.c5,.slice s.a6 s.n6 s.c6,.slice s.a7 s.n7 s.c7,.int .i64 x.need,.int .i64 x.nomap,.int .i64 x.noany,.slice s.a8 s.n8 s.c8,.slice s.a9 s.n9 s.c9] 34 (0,0))):=below_kept L2.out hb3
 have s23:=hb3.size
 clear hb3 S2 B2 L2 ho3
 go_wp2_with (first | (refine wpList_load_row rfl 34 _ rfl w.heap.size rfl 34 #[.int .i64 x.ser,.slice s.a1 s.n1 s.c1,.slice s.a2 s.n2 s.c2,.int .i64 x.frm,.int .i64 x.til,.int .i64 x.key.1,.int .u64 x.key.2.1,.int .i64 x.key.2.2,.bool x.ca,.int .i64 x.room,.int .i64 x.uses,.slice s.a3 s.n3 s.c3,.slice s.a4 s.n4 s.c4,.slice s.a5 s.n5 s.c5,.slice s.a6 s.n6 s.c6,.slice s.a7 s.n7 s.c7,.int .i64 x.need,.int .i64 x.nomap,.int .i64 x.noany,.slice s.a8 s.n8 s.c8,.slice s.a9 s.n9 s.c9] (0,0) _ L3.out Tryz.underlying34 rfl infoSizeL9 ?_) | fail)
 refine (HTX.out _ B3.out).mono ?_
 rintro e w4 ⟨t,rfl,ht,hk4,hb4⟩
 have B4:Hid (Below w.heap.size w w4):=B3.out.trans (hb4.mono B3.out.size)
 have L4:Hid (w4.heap[w.heap.size]? = some (.cells #[.int .i64 x.ser,.slice s.a1 s.n1 s.c1,.slice s.a2 s.n2 s.c2,.int .i64 x.frm,.int .i64 x.til,.int .i64 x.key.1,.int .u64 x.key.2.1,.int .i64 x.key.2.2,.bool x.ca,.int .i64 x.room,.int .i64 x.uses,.slice s.a3 s.n3 s.c3,.slice s.a4 s.n4 s.c4,.slice s.a5 s.n5 s.c5,.slice s.a6 s.n6 s.c6,.slice s.a7 s.n7 s.c7,.int .i64 x.need,.int .i64 x.nomap,.int .i64 x.noany,.slice s.a8 s.n8 s.c8,.slice s.a9 s.n9 s.c9] 34 (0,0))):=below_kept L3.out hb4
 have s34:=hb4.size
 have hz4:(w4.alloc (.cells #[.int .i64 0,.slice none 0 0,.slice none 0 0,.int .i64 0,.int .i64 0,.int .i64 0,.int .u64 0,.int .i64 0,.bool false,.int .i64 0,.int .i64 0,.slice none 0 0,.slice none 0 0,.slice none 0 0,.slice none 0 0,.slice none 0 0,.int .i64 0,.int .i64 0,.int .i64 0,.slice none 0 0,.slice none 0 0] 46)).heap[w4.heap.size]? = some (.cells #[.int .i64 0,.slice none 0 0,.slice none 0 0,.int .i64 0,.int .i64 0,.int .i64 0,.int .u64 0,.int .i64 0,.bool false,.int .i64 0,.int .i64 0,.slice none 0 0,.slice none 0 0,.slice none 0 0,.slice none 0 0,.slice none 0 0,.int .i64 0,.int .i64 0,.int .i64 0,.slice none 0 0,.slice none 0 0] 46 (0,0)):=heap_alloc_new w4 _
 have HZ4:Hid (_=_):=hz4
 obtain ⟨w5,hw5⟩:∃ w5,w5=(w4.alloc (.cells #[.int .i64 0,.slice none 0 0,.slice none 0 0,.int .i64 0,.int .i64 0,.int .i64 0,.int .u64 0,.int .i64 0,.bool false,.int .i64 0,.int .i64 0,.slice none 0 0,.slice none 0 0,.slice none 0 0,.slice none 0 0,.slice none 0 0,.int .i64 0,.int .i64 0,.int .i64 0,.slice none 0 0,.slice none 0 0] 46)).setRow w4.heap.size #[.int .i64 x.ser,.slice t.a1 t.n1 t.c1,.slice t.a2 t.n2 t.c2,.int .i64 x.frm,.int .i64 x.til,.int .i64 x.key.1,.int .u64 x.key.2.1,.int .i64 x.key.2.2,.bool x.ca,.int .i64 x.room,.int .i64 x.uses,.slice t.a3 t.n3 t.c3,.slice t.a4 t.n4 t.c4,.slice t.a5 t.n5 t.c5,.slice t.a6 t.n6 t.c6,.slice t.a7 t.n7 t.c7,.int .i64 x.need,.int .i64 x.nomap,.int .i64 x.noany,.slice t.a8 t.n8 t.c8,.slice t.a9 t.n9 t.c9]:=⟨_,rfl⟩
 have hb5:Below w4.heap.size w4 w5:=by rw [hw5]; exact below_setRow ((Below.refl _ _).alloc (Nat.le_refl _) _) (Nat.le_refl _) _
 have X5:Hid (w5.heap[w4.heap.size]? = some (.cells #[.int .i64 x.ser,.slice t.a1 t.n1 t.c1,.slice t.a2 t.n2 t.c2,.int .i64 x.frm,.int .i64 x.til,.int .i64 x.key.1,.int .u64 x.key.2.1,.int .i64 x.key.2.2,.bool x.ca,.int .i64 x.room,.int .i64 x.uses,.slice t.a3 t.n3 t.c3,.slice t.a4 t.n4 t.c4,.slice t.a5 t.n5 t.c5,.slice t.a6 t.n6 t.c6,.slice t.a7 t.n7 t.c7,.int .i64 x.need,.int .i64 x.nomap,.int .i64 x.noany,.slice t.a8 t.n8 t.c8,.slice t.a9 t.n9 t.c9] 46 (0,0))):=by show _=_; rw [hw5]; exact setRow_heap _ _ _ _ _ _ hz4
 have B5:Hid (Below w.heap.size w w5):=B4.out.trans (hb5.mono B4.out.size)
 have L5:Hid (w5.heap[w.heap.size]? = some (.cells #[.int .i64 x.ser,.slice s.a1 s.n1 s.c1,.slice s.a2 s.n2 s.c2,.int .i64 x.frm,.int .i64 x.til,.int .i64 x.key.1,.int .u64 x.key.2.1,.int .i64 x.key.2.2,.bool x.ca,.int .i64 x.room,.int .i64 x.uses,.slice s.a3 s.n3 s.c3,.slice s.a4 s.n4 s.c4,.slice s.a5 s.n5 s.c5,.slice s.a6 s.n6 s.c6,.slice s.a7 s.n7 s.c7,.int .i64 x.need,.int .i64 x.nomap,.int .i64 x.noany,.slice s.a8 s.n8 s.c8,.slice s.a9 s.n9 s.c9] 34 (0,0))):=below_kept L4.out hb5
 have s45:=hb5.size
 have K5:Hid (CER w5 t x):=hk4.r.kept hb5
 have CH5:Hid (CeH w3.heap.size w4.heap.size w5 t):=(hk4.h HZ.out).sh (Sh.below hb5)
 have H05:Hid (Row w5 aw l.length l):=H03.out.kept (keepT hb4 hb5)
 have I5:Hid (Calls Tryz.prog 18 #[.agg #[.int .i64 x.ser,.slice t.a1 t.n1 t.c1,.slice t.a2 t.n2 t.c2,.int .i64 x.frm,.int .i64 x.til,.int .i64 x.key.1,.int .u64 x.key.2.1,.int .i64 x.key.2.2,.bool x.ca,.int .i64 x.room,.int .i64 x.uses,.slice t.a3 t.n3 t.c3,.slice t.a4 t.n4 t.c4,.slice t.a5 t.n5 t.c5,.slice t.a6 t.n6 t.c6,.slice t.a7 t.n7 t.c7,.int .i64 x.need,.int .i64 x.nomap,.int .i64 x.noany,.slice t.a8 t.n8 t.c8,.slice t.a9 t.n9 t.c9]] w5 fun e w'=>∃ a' c',e=.returned (.tuple #[.slice a' l.length c',.bool bo])∧Own w5.heap.size w' a' l.length c' l∧Below w5.heap.size w5 w'):=implCertBytes_any t x bo l w5 (HM.out _ B5.out) K5.out HZ.out ht HU.out HCB.out
 have HW5:Hid (_=_):=hw5
 clear hw5 hb4 hb5 hk4 B3 L3 B4 L4 hz4 H03 HTX
 go_upto_region 7 with (first | (refine wpList_store_rowTo rfl 46 _ _ rfl rfl w4.heap.size #[.int .i64 x.ser,.slice t.a1 t.n1 t.c1,.slice t.a2 t.n2 t.c2,.int .i64 x.frm,.int .i64 x.til,.int .i64 x.key.1,.int .u64 x.key.2.1,.int .i64 x.key.2.2,.bool x.ca,.int .i64 x.room,.int .i64 x.uses,.slice t.a3 t.n3 t.c3,.slice t.a4 t.n4 t.c4,.slice t.a5 t.n5 t.c5,.slice t.a6 t.n6 t.c6,.slice t.a7 t.n7 t.c7,.int .i64 x.need,.int .i64 x.nomap,.int .i64 x.noany,.slice t.a8 t.n8 t.c8,.slice t.a9 t.n9 t.c9] rfl rfl 46 #[.int .i64 0,.slice none 0 0,.slice none 0 0,.int .i64 0,.int .i64 0,.int .i64 0,.int .u64 0,.int .i64 0,.bool false,.int .i64 0,.int .i64 0,.slice none 0 0,.slice none 0 0,.slice none 0 0,.slice none 0 0,.slice none 0 0,.int .i64 0,.int .i64 0,.int .i64 0,.slice none 0 0,.slice none 0 0] HZ4.out infoSize9 rfl (by simp [Value.oneCell']) ?_) | fail)
 rw [← HW5.out]
 clear HW5 HZ4
 go_wp2_with (first | (refine wpList_load_row rfl 46 _ rfl w4.heap.size rfl 46 #[.int .i64 x.ser,.slice t.a1 t.n1 t.c1,.slice t.a2 t.n2 t.c2,.int .i64 x.frm,.int .i64 x.til,.int .i64 x.key.1,.int .u64 x.key.2.1,.int .i64 x.key.2.2,.bool x.ca,.int .i64 x.room,.int .i64 x.uses,.slice t.a3 t.n3 t.c3,.slice t.a4 t.n4 t.c4,.slice t.a5 t.n5 t.c5,.slice t.a6 t.n6 t.c6,.slice t.a7 t.n7 t.c7,.int .i64 x.need,.int .i64 x.nomap,.int .i64 x.noany,.slice t.a8 t.n8 t.c8,.slice t.a9 t.n9 t.c9] (0,0) _ X5.out Tryz.underlying46 rfl infoSize9 ?_) | fail)
 refine I5.out.mono ?_
 rintro e w6 ⟨ag,cg,rfl,ho6,hb6⟩
 have HG6:Hid (Own w5.heap.size w6 ag l.length cg l):=ho6
 have HIG:Hid (In ag l.length w5.heap.size w6.heap.size):=ho6.in_
 have H06:Hid (Row w6 aw l.length l):=H05.out.kept hb6
 have t0:(bo != bo)=false:=by simp
 have HB6:Hid (Below w5.heap.size w5 w6):=hb6
 clear ho6 hb6 I5 H05
 go_wp2_with fail
 refine (eqByteS_any ag aw l.length l.length cg cw l l _ HG6.out.toRow H06.out hlm hlm).mono ?_
 rintro e w8 ⟨rfl,hb8⟩
 rw [decide_eq_true (rfl:l=l)]
 have k58:Below w5.heap.size w5 w8:=HB6.out.trans (hb8.mono HB6.out.size)
 have B8:Hid (Below w.heap.size w w8):=B5.out.trans (k58.mono B5.out.size)
 have HG8:Hid (Own w5.heap.size w8 ag l.length cg l):=HG6.out.kept hb8
 have H08:Hid (Row w8 aw l.length l):=H06.out.kept hb8
 have L8:Hid (w8.heap[w.heap.size]? = some (.cells #[.int .i64 x.ser,.slice s.a1 s.n1 s.c1,.slice s.a2 s.n2 s.c2,.int .i64 x.frm,.int .i64 x.til,.int .i64 x.key.1,.int .u64 x.key.2.1,.int .i64 x.key.2.2,.bool x.ca,.int .i64 x.room,.int .i64 x.uses,.slice s.a3 s.n3 s.c3,.slice s.a4 s.n4 s.c4,.slice s.a5 s.n5 s.c5,.slice s.a6 s.n6 s.c6,.slice s.a7 s.n7 s.c7,.int .i64 x.need,.int .i64 x.nomap,.int .i64 x.noany,.slice s.a8 s.n8 s.c8,.slice s.a9 s.n9 s.c9] 34 (0,0))):=below_kept L5.out k58
 have X8:Hid (w8.heap[w4.heap.size]? = some (.cells #[.int .i64 x.ser,.slice t.a1 t.n1 t.c1,.slice t.a2 t.n2 t.c2,.int .i64 x.frm,.int .i64 x.til,.int .i64 x.key.1,.int .u64 x.key.2.1,.int .i64 x.key.2.2,.bool x.ca,.int .i64 x.room,.int .i64 x.uses,.slice t.a3 t.n3 t.c3,.slice t.a4 t.n4 t.c4,.slice t.a5 t.n5 t.c5,.slice t.a6 t.n6 t.c6,.slice t.a7 t.n7 t.c7,.int .i64 x.need,.int .i64 x.nomap,.int .i64 x.noany,.slice t.a8 t.n8 t.c8,.slice t.a9 t.n9 t.c9] 46 (0,0))):=below_kept X5.out k58
 have K8:Hid (CER w8 t x):=K5.out.kept k58
 have CH8:Hid (CeH w3.heap.size w4.heap.size w8 t):=CH5.out.sh (Sh.below k58)
 have s58:=k58.size
 have s68:=hb8.size
 have HTD:Hid (∀ W,Below w8.heap.size w8 W→Calls Tryz.prog 10 #[.agg #[.int .i64 x.ser,.slice s.a1 s.n1 s.c1,.slice s.a2 s.n2 s.c2,.int .i64 x.frm,.int .i64 x.til,.int .i64 x.key.1,.int .u64 x.key.2.1,.int .i64 x.key.2.2,.bool x.ca,.int .i64 x.room,.int .i64 x.uses,.slice s.a3 s.n3 s.c3,.slice s.a4 s.n4 s.c4,.slice s.a5 s.n5 s.c5,.slice s.a6 s.n6 s.c6,.slice s.a7 s.n7 s.c7,.int .i64 x.need,.int .i64 x.nomap,.int .i64 x.noany,.slice s.a8 s.n8 s.c8,.slice s.a9 s.n9 s.c9]] W fun e w'=>∃ u:CES,e=.returned (CEv u x)∧CER w' u x∧Below W.heap.size W w'):=fun W hW=>(HTO.out W (B8.out.trans (hW.mono B8.out.size))).mono fun e w' ⟨u,h1,h2,h3,h4⟩=>⟨u,h1,h3,h4⟩
 have HEQ:Hid (∀ W (u:CES),Below w8.heap.size w8 W→CER W u x→Calls Tryz.prog 13 #[.agg #[.int .i64 x.ser,.slice t.a1 t.n1 t.c1,.slice t.a2 t.n2 t.c2,.int .i64 x.frm,.int .i64 x.til,.int .i64 x.key.1,.int .u64 x.key.2.1,.int .i64 x.key.2.2,.bool x.ca,.int .i64 x.room,.int .i64 x.uses,.slice t.a3 t.n3 t.c3,.slice t.a4 t.n4 t.c4,.slice t.a5 t.n5 t.c5,.slice t.a6 t.n6 t.c6,.slice t.a7 t.n7 t.c7,.int .i64 x.need,.int .i64 x.nomap,.int .i64 x.noany,.slice t.a8 t.n8 t.c8,.slice t.a9 t.n9 t.c9],CEv u x] W fun e w'=>e=.returned (.bool true)∧Below W.heap.size W w'):=fun W u hW hu=>eqCert_k t u x W (K8.out.kept hW) hu HZ.out
 have HMK:Hid (∀ W,Below w8.heap.size w8 W→Calls Tryz.prog 14 #[.agg #[.int .i64 x.ser,.slice t.a1 t.n1 t.c1,.slice t.a2 t.n2 t.c2,.int .i64 x.frm,.int .i64 x.til,.int .i64 x.key.1,.int .u64 x.key.2.1,.int .i64 x.key.2.2,.bool x.ca,.int .i64 x.room,.int .i64 x.uses,.slice t.a3 t.n3 t.c3,.slice t.a4 t.n4 t.c4,.slice t.a5 t.n5 t.c5,.slice t.a6 t.n6 t.c6,.slice t.a7 t.n7 t.c7,.int .i64 x.need,.int .i64 x.nomap,.int .i64 x.noany,.slice t.a8 t.n8 t.c8,.slice t.a9 t.n9 t.c9],.int .i64 1] W fun e w'=>∃ K:Nat,e=.returned (.int .i64 (K:Int))∧Touch w3.heap.size w4.heap.size W w'∧Sh W w'):=fun W hW=>markCert_h w3.heap.size w4.heap.size t x W (CH8.out.sh (Sh.below hW))
 have HBB:w8.heap.size≤w8.heap.size:=Nat.le_refl _
 clear hb8 k58 B5 L5 X5 K5 CH5 HB6 HG6 H06 CH8
 go_upto_region 10 with fail
 refine wp_region_ri (lb2 s t x w4.heap.size w.heap.size (w8.heap.size)) [41,42,43,44,45] (w8.heap.size) (fun a0=>a0.tmps.size=96∧aT a0 1=.pointer (some ⟨w.heap.size,0,none⟩)∧aT a0 6=.pointer (some ⟨w4.heap.size,0,none⟩)) (by kernel_rfl) rfl (by kernel_rfl) rfl ⟨rfl,rfl,rfl⟩ (lb2_stb s t x w4.heap.size w.heap.size (w8.heap.size)) ?_ ?_ ?_
 ·intro k hk hk2
  match k,hk,hk2 with
  | 5,_,_=>exact X8.out
  | 6,_,_=>exact L8.out
  | 0,hk,_=>exact absurd hk (by show ¬ (5≤0); omega)
  | 1,hk,_=>exact absurd hk (by show ¬ (5≤1); omega)
  | 2,hk,_=>exact absurd hk (by show ¬ (5≤2); omega)
  | 3,hk,_=>exact absurd hk (by show ¬ (5≤3); omega)
  | 4,hk,_=>exact absurd hk (by show ¬ (5≤4); omega)
  | k+7,_,hk2=>exact absurd hk2 (by show ¬ (k+7<7); omega)
 ·rintro a0 ⟨hz,g1,g6⟩
  refine StepsRI.cons ?_ (StepsRI.cons ?_ (StepsRI.cons ?_ (StepsRI.cons ?_ (StepsRI.cons ?_ (StepsRI.nil)))))
  ·intro lQ b W hI hUN hED KQ hKQ
   have hg:=(hI.vot 5 (of_decide_eq_true rfl) (of_decide_eq_true rfl) rfl)
   refine wp_load_row 46 _ rfl (w4.heap.size) ((hI.fr.same 6 (by decide)).trans g6) 46 #[.int .i64 x.ser,.slice t.a1 t.n1 t.c1,.slice t.a2 t.n2 t.c2,.int .i64 x.frm,.int .i64 x.til,.int .i64 x.key.1,.int .u64 x.key.2.1,.int .i64 x.key.2.2,.bool x.ca,.int .i64 x.room,.int .i64 x.uses,.slice t.a3 t.n3 t.c3,.slice t.a4 t.n4 t.c4,.slice t.a5 t.n5 t.c5,.slice t.a6 t.n6 t.c6,.slice t.a7 t.n7 t.c7,.int .i64 x.need,.int .i64 x.nomap,.int .i64 x.noany,.slice t.a8 t.n8 t.c8,.slice t.a9 t.n9 t.c9] (0,0) _ hg Tryz.underlying46 rfl (by kernel_rfl) ?_
   exact hKQ.out _ _ (hI.put 0 41 rfl rfl (by rw [hz]; decide) rfl hUN rfl HBB (lb2_stb s t x w4.heap.size w.heap.size (w8.heap.size)) (Below.refl _ _) rfl)
  ·intro lQ b W hI hUN hED KQ hKQ
   have hg:=(hI.vot 6 (of_decide_eq_true rfl) (of_decide_eq_true rfl) rfl)
   refine wp_load_row 34 _ rfl (w.heap.size) ((hI.fr.same 1 (by decide)).trans g1) 34 #[.int .i64 x.ser,.slice s.a1 s.n1 s.c1,.slice s.a2 s.n2 s.c2,.int .i64 x.frm,.int .i64 x.til,.int .i64 x.key.1,.int .u64 x.key.2.1,.int .i64 x.key.2.2,.bool x.ca,.int .i64 x.room,.int .i64 x.uses,.slice s.a3 s.n3 s.c3,.slice s.a4 s.n4 s.c4,.slice s.a5 s.n5 s.c5,.slice s.a6 s.n6 s.c6,.slice s.a7 s.n7 s.c7,.int .i64 x.need,.int .i64 x.nomap,.int .i64 x.noany,.slice s.a8 s.n8 s.c8,.slice s.a9 s.n9 s.c9] (0,0) _ hg Tryz.underlying34 rfl (by kernel_rfl) ?_
   exact hKQ.out _ _ (hI.put 1 42 rfl rfl (by rw [hz]; decide) rfl hUN rfl HBB (lb2_stb s t x w4.heap.size w.heap.size (w8.heap.size)) (Below.refl _ _) rfl)
  ·intro lQ b W hI hUN hED KQ hKQ
   have f0:=hI.got 1 (of_decide_eq_true rfl) (edge hED 1 (by kernel_rfl)) rfl
   replace f0:aT b 42=.agg #[.int .i64 x.ser,.slice s.a1 s.n1 s.c1,.slice s.a2 s.n2 s.c2,.int .i64 x.frm,.int .i64 x.til,.int .i64 x.key.1,.int .u64 x.key.2.1,.int .i64 x.key.2.2,.bool x.ca,.int .i64 x.room,.int .i64 x.uses,.slice s.a3 s.n3 s.c3,.slice s.a4 s.n4 s.c4,.slice s.a5 s.n5 s.c5,.slice s.a6 s.n6 s.c6,.slice s.a7 s.n7 s.c7,.int .i64 x.need,.int .i64 x.nomap,.int .i64 x.noany,.slice s.a8 s.n8 s.c8,.slice s.a9 s.n9 s.c9]:=f0
   refine opw_call 10 #[.tmp 42] _ _ _ rfl Tryz.func10 (by kernel_rfl) rfl #[.agg #[.int .i64 x.ser,.slice s.a1 s.n1 s.c1,.slice s.a2 s.n2 s.c2,.int .i64 x.frm,.int .i64 x.til,.int .i64 x.key.1,.int .u64 x.key.2.1,.int .i64 x.key.2.2,.bool x.ca,.int .i64 x.room,.int .i64 x.uses,.slice s.a3 s.n3 s.c3,.slice s.a4 s.n4 s.c4,.slice s.a5 s.n5 s.c5,.slice s.a6 s.n6 s.c6,.slice s.a7 s.n7 s.c7,.int .i64 x.need,.int .i64 x.nomap,.int .i64 x.noany,.slice s.a8 s.n8 s.c8,.slice s.a9 s.n9 s.c9]] (by simp [ev,f0]) ?_
   refine (HTD.out W hI.bel).mono ?_
   rintro e W2 ⟨u,rfl,hk,hb⟩
   exact ⟨_,rfl,hKQ.out _ _ (hI.put 2 43 rfl rfl (by rw [hz]; decide) rfl hUN rfl HBB (lb2_stb s t x w4.heap.size w.heap.size (w8.heap.size)) hb ⟨u,rfl,hk⟩)⟩
  ·intro lQ b W hI hUN hED KQ hKQ
   have f0:=hI.got 0 (of_decide_eq_true rfl) (edge hED 0 (by kernel_rfl)) rfl
   replace f0:aT b 41=.agg #[.int .i64 x.ser,.slice t.a1 t.n1 t.c1,.slice t.a2 t.n2 t.c2,.int .i64 x.frm,.int .i64 x.til,.int .i64 x.key.1,.int .u64 x.key.2.1,.int .i64 x.key.2.2,.bool x.ca,.int .i64 x.room,.int .i64 x.uses,.slice t.a3 t.n3 t.c3,.slice t.a4 t.n4 t.c4,.slice t.a5 t.n5 t.c5,.slice t.a6 t.n6 t.c6,.slice t.a7 t.n7 t.c7,.int .i64 x.need,.int .i64 x.nomap,.int .i64 x.noany,.slice t.a8 t.n8 t.c8,.slice t.a9 t.n9 t.c9]:=f0
   have f1:=hI.got 2 (of_decide_eq_true rfl) (edge hED 2 (by kernel_rfl)) rfl
   obtain ⟨u,f1,o1_0⟩:=f1
   replace f1:aT b 43=CEv u x:=f1
   refine opw_call 13 #[.tmp 41,.tmp 43] _ _ _ rfl Tryz.func13 (by kernel_rfl) rfl #[.agg #[.int .i64 x.ser,.slice t.a1 t.n1 t.c1,.slice t.a2 t.n2 t.c2,.int .i64 x.frm,.int .i64 x.til,.int .i64 x.key.1,.int .u64 x.key.2.1,.int .i64 x.key.2.2,.bool x.ca,.int .i64 x.room,.int .i64 x.uses,.slice t.a3 t.n3 t.c3,.slice t.a4 t.n4 t.c4,.slice t.a5 t.n5 t.c5,.slice t.a6 t.n6 t.c6,.slice t.a7 t.n7 t.c7,.int .i64 x.need,.int .i64 x.nomap,.int .i64 x.noany,.slice t.a8 t.n8 t.c8,.slice t.a9 t.n9 t.c9],CEv u x] (by simp [ev,f0,f1]) ?_
   refine (HEQ.out W u hI.bel o1_0).mono ?_
   rintro e W2 ⟨rfl,hb⟩
   exact ⟨_,rfl,hKQ.out _ _ (hI.put 3 44 rfl rfl (by rw [hz]; decide) rfl hUN rfl HBB (lb2_stb s t x w4.heap.size w.heap.size (w8.heap.size)) hb rfl)⟩
  ·intro lQ b W hI hUN hED KQ hKQ
   have f:aT b 44=.bool true:=hI.got 3 (of_decide_eq_true rfl) (edge hED 3 (by kernel_rfl)) rfl
   exact opw_not _ 44 rfl true f (hKQ.out _ _ (hI.put 4 45 rfl rfl (by rw [hz]; decide) rfl hUN rfl HBB (lb2_stb s t x w4.heap.size w.heap.size (w8.heap.size)) (Below.refl _ _) rfl))
 ·intro b W hf hb F
  have e45:aT b 45=.bool false:=F 4 (of_decide_eq_true rfl) rfl
  rw [hf.eq]
  simp only [puts,Act.put,List.setIfInBounds_toArray,List.set_cons_zero,List.set_cons_succ,e45]
  clear hf F e45
  generalize aT b=AT
  clear b
  have BW:Hid (Below w.heap.size w W):=B8.out.trans (hb.mono B8.out.size)
  have HGW:Hid (Own w5.heap.size W ag l.length cg l):=HG8.out.kept hb
  have H0W:Hid (Row W aw l.length l):=H08.out.kept hb
  have LW:Hid (W.heap[w.heap.size]? = some (.cells #[.int .i64 x.ser,.slice s.a1 s.n1 s.c1,.slice s.a2 s.n2 s.c2,.int .i64 x.frm,.int .i64 x.til,.int .i64 x.key.1,.int .u64 x.key.2.1,.int .i64 x.key.2.2,.bool x.ca,.int .i64 x.room,.int .i64 x.uses,.slice s.a3 s.n3 s.c3,.slice s.a4 s.n4 s.c4,.slice s.a5 s.n5 s.c5,.slice s.a6 s.n6 s.c6,.slice s.a7 s.n7 s.c7,.int .i64 x.need,.int .i64 x.nomap,.int .i64 x.noany,.slice s.a8 s.n8 s.c8,.slice s.a9 s.n9 s.c9] 34 (0,0))):=below_kept L8.out hb
  have XW:Hid (W.heap[w4.heap.size]? = some (.cells #[.int .i64 x.ser,.slice t.a1 t.n1 t.c1,.slice t.a2 t.n2 t.c2,.int .i64 x.frm,.int .i64 x.til,.int .i64 x.key.1,.int .u64 x.key.2.1,.int .i64 x.key.2.2,.bool x.ca,.int .i64 x.room,.int .i64 x.uses,.slice t.a3 t.n3 t.c3,.slice t.a4 t.n4 t.c4,.slice t.a5 t.n5 t.c5,.slice t.a6 t.n6 t.c6,.slice t.a7 t.n7 t.c7,.int .i64 x.need,.int .i64 x.nomap,.int .i64 x.noany,.slice t.a8 t.n8 t.c8,.slice t.a9 t.n9 t.c9] 46 (0,0))):=below_kept X8.out hb
  have zzW:=hb.size
  have HBW:Hid (Below w8.heap.size w8 W):=hb
  clear HG8 H08 L8 X8 hb
  go_wp2_with (first | (refine wpList_load_row rfl 46 _ rfl w4.heap.size rfl 46 #[.int .i64 x.ser,.slice t.a1 t.n1 t.c1,.slice t.a2 t.n2 t.c2,.int .i64 x.frm,.int .i64 x.til,.int .i64 x.key.1,.int .u64 x.key.2.1,.int .i64 x.key.2.2,.bool x.ca,.int .i64 x.room,.int .i64 x.uses,.slice t.a3 t.n3 t.c3,.slice t.a4 t.n4 t.c4,.slice t.a5 t.n5 t.c5,.slice t.a6 t.n6 t.c6,.slice t.a7 t.n7 t.c7,.int .i64 x.need,.int .i64 x.nomap,.int .i64 x.noany,.slice t.a8 t.n8 t.c8,.slice t.a9 t.n9 t.c9] (0,0) _ XW.out Tryz.underlying46 rfl infoSize9 ?_) | fail)
  refine (HMK.out W HBW.out).mono ?_
  rintro e w9 ⟨K,rfl,T9,_⟩
  have B9:Hid (Below w.heap.size w w9):=BW.out.trans (T9.below (by omega) BW.out.size)
  have HG9:Hid (Own w5.heap.size w9 ag l.length cg l):=HGW.out.touch5 T9 (by omega)
  have H09:Hid (Row w9 aw l.length l):=H0W.out.touch HI0.out (.inl (Nat.le_refl _)) T9
  have L9:Hid (w9.heap[w.heap.size]? = some (.cells #[.int .i64 x.ser,.slice s.a1 s.n1 s.c1,.slice s.a2 s.n2 s.c2,.int .i64 x.frm,.int .i64 x.til,.int .i64 x.key.1,.int .u64 x.key.2.1,.int .i64 x.key.2.2,.bool x.ca,.int .i64 x.room,.int .i64 x.uses,.slice s.a3 s.n3 s.c3,.slice s.a4 s.n4 s.c4,.slice s.a5 s.n5 s.c5,.slice s.a6 s.n6 s.c6,.slice s.a7 s.n7 s.c7,.int .i64 x.need,.int .i64 x.nomap,.int .i64 x.noany,.slice s.a8 s.n8 s.c8,.slice s.a9 s.n9 s.c9] 34 (0,0))):=touch_keptC T9 LW.out (.inl (by omega))
  have zz9:=T9.size
  have hK0:¬ ((K:Int)<0):=by omega
  clear T9 HGW H0W LW XW HBW HMK
  go_wp2_with fail
  refine (eqByteS_any ag aw l.length l.length cg cw l l _ HG9.out.toRow H09.out hlm hlm).mono ?_
  rintro e w10 ⟨rfl,hb10⟩
  rw [decide_eq_true (rfl:l=l)]
  have B10:Hid (Below w.heap.size w w10):=B9.out.trans (hb10.mono B9.out.size)
  have HG10:Hid (Own w5.heap.size w10 ag l.length cg l):=HG9.out.kept hb10
  have H010:Hid (Row w10 aw l.length l):=H09.out.kept hb10
  have L10:Hid (w10.heap[w.heap.size]? = some (.cells #[.int .i64 x.ser,.slice s.a1 s.n1 s.c1,.slice s.a2 s.n2 s.c2,.int .i64 x.frm,.int .i64 x.til,.int .i64 x.key.1,.int .u64 x.key.2.1,.int .i64 x.key.2.2,.bool x.ca,.int .i64 x.room,.int .i64 x.uses,.slice s.a3 s.n3 s.c3,.slice s.a4 s.n4 s.c4,.slice s.a5 s.n5 s.c5,.slice s.a6 s.n6 s.c6,.slice s.a7 s.n7 s.c7,.int .i64 x.need,.int .i64 x.nomap,.int .i64 x.noany,.slice s.a8 s.n8 s.c8,.slice s.a9 s.n9 s.c9] 34 (0,0))):=below_kept L9.out hb10
  have zz10:=hb10.size
  clear HG9 H09 L9 hb10
  go_wp2_with fail
  refine (markByteS_t w5.heap.size ag l.length cg 1 l _ (fun _=>HG10.out) (by omega) (by decide) (by decide)).mono ?_
  rintro e w11 ⟨rfl,_,hr11,ht11⟩
  have T11:=ht11 _ _ HIG.out
  have B11:Hid (Below w.heap.size w w11):=B10.out.trans (T11.below (by omega) B10.out.size)
  have H011:Hid (Row w11 aw l.length l):=H010.out.touch HI0.out (.inl (by omega)) T11
  have L11:Hid (w11.heap[w.heap.size]? = some (.cells #[.int .i64 x.ser,.slice s.a1 s.n1 s.c1,.slice s.a2 s.n2 s.c2,.int .i64 x.frm,.int .i64 x.til,.int .i64 x.key.1,.int .u64 x.key.2.1,.int .i64 x.key.2.2,.bool x.ca,.int .i64 x.room,.int .i64 x.uses,.slice s.a3 s.n3 s.c3,.slice s.a4 s.n4 s.c4,.slice s.a5 s.n5 s.c5,.slice s.a6 s.n6 s.c6,.slice s.a7 s.n7 s.c7,.int .i64 x.need,.int .i64 x.nomap,.int .i64 x.noany,.slice s.a8 s.n8 s.c8,.slice s.a9 s.n9 s.c9] 34 (0,0))):=touch_keptC T11 L10.out (.inl (by omega))
  have HR11:Hid (Row w11 ag l.length (marks (1:Int).toNat l.length)):=hr11
  clear hr11 ht11 T11 HG10 H010 L10
  go_wp2_with fail
  refine (heldByteS_int ag l.length cg 1 _ HR11.out (by omega) (by decide) (by decide)).mono ?_
  rintro e w12 ⟨rfl,hw⟩
  have hw2:=hw.symm
  subst hw2
  have z3:¬ ((1:Int)+l.length<0):=by omega
  have z4:((1:Int)+l.length != 1+l.length)=false:=by simp
  go_wp2_with (first | (refine wpList_load_row rfl 34 _ rfl w.heap.size rfl 34 #[.int .i64 x.ser,.slice s.a1 s.n1 s.c1,.slice s.a2 s.n2 s.c2,.int .i64 x.frm,.int .i64 x.til,.int .i64 x.key.1,.int .u64 x.key.2.1,.int .i64 x.key.2.2,.bool x.ca,.int .i64 x.room,.int .i64 x.uses,.slice s.a3 s.n3 s.c3,.slice s.a4 s.n4 s.c4,.slice s.a5 s.n5 s.c5,.slice s.a6 s.n6 s.c6,.slice s.a7 s.n7 s.c7,.int .i64 x.need,.int .i64 x.nomap,.int .i64 x.noany,.slice s.a8 s.n8 s.c8,.slice s.a9 s.n9 s.c9] (0,0) _ L11.out Tryz.underlying34 rfl infoSizeL9 ?_) | fail)
  refine (HTO.out _ B11.out).mono ?_
  rintro e w13 ⟨t3,rfl,ht3,hk13,hb13⟩
  have B13:Hid (Below w.heap.size w w13):=B11.out.trans (hb13.mono B11.out.size)
  have I13:Hid (Calls Tryz.prog 18 #[CEv t3 x] w13 fun e w'=>∃ a' c',e=.returned (.tuple #[.slice a' l.length c',.bool bo])∧Own w13.heap.size w' a' l.length c' l∧Below w13.heap.size w13 w'):=implCertBytes_any t3 x bo l w13 (HM.out _ B13.out) hk13 HZ.out ht3 HU.out HCB.out
  have K13:Hid (Below w11.heap.size w11 w13):=hb13
  clear hk13 ht3 hb13 L11
  go_wp2_with fail
  refine I13.out.mono ?_
  rintro e w14 ⟨a14,c14,rfl,ho14,hb14⟩
  have k14:Below w11.heap.size w11 w14:=K13.out.trans (hb14.mono K13.out.size)
  have HR14:Hid (Row w14 a14 l.length l):=ho14.toRow
  have H014:Hid (Row w14 aw l.length l):=H011.out.kept k14
  have HK14:Hid (Below w11.heap.size w11 w14):=k14
  clear ho14 hb14 k14 I13 K13 B13
  go_wp2_with fail
  refine (eqByteS_any a14 aw l.length l.length c14 cw l l _ HR14.out H014.out hlm hlm).mono ?_
  rintro e w15 ⟨rfl,hb15⟩
  rw [decide_eq_true (rfl:l=l)]
  have HK15:Hid (Below w11.heap.size w11 w15):=HK14.out.trans (hb15.mono HK14.out.size)
  have B15:Hid (Below w.heap.size w w15):=B11.out.trans (HK15.out.mono B11.out.size)
  clear hb15 HR14 H014 HK14
  go_wp2_with fail
  refine (heldByteS_int ag l.length cg 1 _ (HR11.out.kept HK15.out) (by omega) (by decide) (by decide)).mono ?_
  rintro e w16 ⟨rfl,hw⟩
  have hw2:=hw.symm
  subst hw2
  go_wp2_with fail
  go_ret
  exact ⟨rfl,B15.out⟩
end Go.Proofs.YtmdfbnlgfhjnoaaGreatDoor
