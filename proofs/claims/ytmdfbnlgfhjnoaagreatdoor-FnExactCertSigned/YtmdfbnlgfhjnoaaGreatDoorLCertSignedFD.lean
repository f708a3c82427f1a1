import Derived.Test.YtmdfbnlgfhjnoaaGreatDoorFD48
set_option maxRecDepth 10000
set_option maxHeartbeats 8000000
set_option linter.unusedVariables false
namespace Go.Proofs.YtmdfbnlgfhjnoaaGreatDoor
open Go.RowKit Go.Sort
def ls5 (s:CES)(x:CE)(sc yy hh:Int)(vb:Bool)(G B:Nat):RSpec where
 m:=6
 n:=8
 slots:=[14,15,16,17,18,6,100006,100007]
 kills:=[[],[],[],[],[],[],[],[]]
 pres:=[[],[],[],[],[],[],[],[]]
 fact:=fun k v w=>match k with
  | 0=>v=.agg #[.int .i64 x.ser,.slice s.a1 s.n1 s.c1,.slice s.a2 s.n2 s.c2,.int .i64 x.frm,.int .i64 x.til,.int .i64 x.key.1,.int .u64 x.key.2.1,.int .i64 x.key.2.2,.bool x.ca,.int .i64 x.room,.int .i64 x.uses,.slice s.a3 s.n3 s.c3,.slice s.a4 s.n4 s.c4,.slice s.a5 s.n5 s.c5,.slice s.a6 s.n6 s.c6,.slice s.a7 s.n7 s.c7,.int .i64 x.need,.int .i64 x.nomap,.int .i64 x.noany,.slice s.a8 s.n8 s.c8,.slice s.a9 s.n9 s.c9]
  | 1=>∃ (u:CES),v=CEv u x∧CER w u x∧CET u
  | 2=>v=.agg #[.int .i64 sc,.int .u64 yy,.int .i64 hh]
  | 3=>v=.agg #[.int .i64 sc,.int .u64 yy,.int .i64 hh]
  | 4=>v=.bool vb
  | 5=>v=.bool vb
  | 6=>w.heap[G]? = some (.cells #[.int .i64 x.ser,.slice s.a1 s.n1 s.c1,.slice s.a2 s.n2 s.c2,.int .i64 x.frm,.int .i64 x.til,.int .i64 x.key.1,.int .u64 x.key.2.1,.int .i64 x.key.2.2,.bool x.ca,.int .i64 x.room,.int .i64 x.uses,.slice s.a3 s.n3 s.c3,.slice s.a4 s.n4 s.c4,.slice s.a5 s.n5 s.c5,.slice s.a6 s.n6 s.c6,.slice s.a7 s.n7 s.c7,.int .i64 x.need,.int .i64 x.nomap,.int .i64 x.noany,.slice s.a8 s.n8 s.c8,.slice s.a9 s.n9 s.c9] 34 (0,0))
  | _=>w.heap[(G+1)]? = some (.cells #[.int .i64 sc,.int .u64 yy,.int .i64 hh] 27 (0,0))
theorem ls5_stb (s:CES)(x:CE)(sc yy hh:Int)(vb:Bool)(G B:Nat)(k:Nat)(hk:k<8):StB ((ls5 s x sc yy hh vb G (B)).fact k):=by
 match k,hk with
 | 0,_=>exact fun _ _ _ h _=>h
 | 1,_=>exact fun _ _ _ ⟨u,hv,q_0,q_1⟩ hb=>⟨u,hv,q_0.kept hb,q_1⟩
 | 2,_=>exact fun _ _ _ h _=>h
 | 3,_=>exact fun _ _ _ h _=>h
 | 4,_=>exact fun _ _ _ h _=>h
 | 5,_=>exact fun _ _ _ h _=>h
 | 6,_=>exact fun _ _ _ q_0 hb=>below_kept q_0 hb
 | 7,_=>exact fun _ _ _ q_0 hb=>below_kept q_0 hb
 | k+8,hk=>omega
def ls7 (s t:CES)(x:CE)(sc yy hh:Int)(vb:Bool)(gx G B:Nat):RSpec where
 m:=5
 n:=7
 slots:=[21,22,23,24,8,100005,100006]
 kills:=[[],[],[],[],[],[],[]]
 pres:=[[],[],[],[],[],[],[]]
 fact:=fun k v w=>match k with
  | 0=>v=.agg #[.int .i64 x.ser,.slice t.a1 t.n1 t.c1,.slice t.a2 t.n2 t.c2,.int .i64 x.frm,.int .i64 x.til,.int .i64 x.key.1,.int .u64 x.key.2.1,.int .i64 x.key.2.2,.bool x.ca,.int .i64 x.room,.int .i64 x.uses,.slice t.a3 t.n3 t.c3,.slice t.a4 t.n4 t.c4,.slice t.a5 t.n5 t.c5,.slice t.a6 t.n6 t.c6,.slice t.a7 t.n7 t.c7,.int .i64 x.need,.int .i64 x.nomap,.int .i64 x.noany,.slice t.a8 t.n8 t.c8,.slice t.a9 t.n9 t.c9]
  | 1=>v=.agg #[.int .i64 sc,.int .u64 yy,.int .i64 hh]
  | 2=>v=.agg #[.int .i64 sc,.int .u64 yy,.int .i64 hh]
  | 3=>v=.bool vb
  | 4=>v=.bool vb
  | 5=>w.heap[gx]? = some (.cells #[.int .i64 x.ser,.slice t.a1 t.n1 t.c1,.slice t.a2 t.n2 t.c2,.int .i64 x.frm,.int .i64 x.til,.int .i64 x.key.1,.int .u64 x.key.2.1,.int .i64 x.key.2.2,.bool x.ca,.int .i64 x.room,.int .i64 x.uses,.slice t.a3 t.n3 t.c3,.slice t.a4 t.n4 t.c4,.slice t.a5 t.n5 t.c5,.slice t.a6 t.n6 t.c6,.slice t.a7 t.n7 t.c7,.int .i64 x.need,.int .i64 x.nomap,.int .i64 x.noany,.slice t.a8 t.n8 t.c8,.slice t.a9 t.n9 t.c9] 46 (0,0))
  | _=>w.heap[(G+1)]? = some (.cells #[.int .i64 sc,.int .u64 yy,.int .i64 hh] 27 (0,0))
theorem ls7_stb (s t:CES)(x:CE)(sc yy hh:Int)(vb:Bool)(gx G B:Nat)(k:Nat)(hk:k<7):StB ((ls7 s t x sc yy hh vb gx G (B)).fact k):=by
 match k,hk with
 | 0,_=>exact fun _ _ _ h _=>h
 | 1,_=>exact fun _ _ _ h _=>h
 | 2,_=>exact fun _ _ _ h _=>h
 | 3,_=>exact fun _ _ _ h _=>h
 | 4,_=>exact fun _ _ _ h _=>h
 | 5,_=>exact fun _ _ _ q_0 hb=>below_kept q_0 hb
 | 6,_=>exact fun _ _ _ q_0 hb=>below_kept q_0 hb
 | k+7,hk=>omega
def ls10 (s t:CES)(x:CE)(sc yy hh:Int)(vb:Bool)(gx G B:Nat):RSpec where
 m:=5
 n:=7
 slots:=[28,29,30,31,32,100005,100006]
 kills:=[[],[],[],[],[],[],[]]
 pres:=[[],[],[],[],[],[],[]]
 fact:=fun k v w=>match k with
  | 0=>v=.agg #[.int .i64 x.ser,.slice t.a1 t.n1 t.c1,.slice t.a2 t.n2 t.c2,.int .i64 x.frm,.int .i64 x.til,.int .i64 x.key.1,.int .u64 x.key.2.1,.int .i64 x.key.2.2,.bool x.ca,.int .i64 x.room,.int .i64 x.uses,.slice t.a3 t.n3 t.c3,.slice t.a4 t.n4 t.c4,.slice t.a5 t.n5 t.c5,.slice t.a6 t.n6 t.c6,.slice t.a7 t.n7 t.c7,.int .i64 x.need,.int .i64 x.nomap,.int .i64 x.noany,.slice t.a8 t.n8 t.c8,.slice t.a9 t.n9 t.c9]
  | 1=>v=.agg #[.int .i64 x.ser,.slice s.a1 s.n1 s.c1,.slice s.a2 s.n2 s.c2,.int .i64 x.frm,.int .i64 x.til,.int .i64 x.key.1,.int .u64 x.key.2.1,.int .i64 x.key.2.2,.bool x.ca,.int .i64 x.room,.int .i64 x.uses,.slice s.a3 s.n3 s.c3,.slice s.a4 s.n4 s.c4,.slice s.a5 s.n5 s.c5,.slice s.a6 s.n6 s.c6,.slice s.a7 s.n7 s.c7,.int .i64 x.need,.int .i64 x.nomap,.int .i64 x.noany,.slice s.a8 s.n8 s.c8,.slice s.a9 s.n9 s.c9]
  | 2=>∃ (u:CES),v=CEv u x∧CER w u x
  | 3=>v=.bool true
  | 4=>v=.bool false
  | 5=>w.heap[gx]? = some (.cells #[.int .i64 x.ser,.slice t.a1 t.n1 t.c1,.slice t.a2 t.n2 t.c2,.int .i64 x.frm,.int .i64 x.til,.int .i64 x.key.1,.int .u64 x.key.2.1,.int .i64 x.key.2.2,.bool x.ca,.int .i64 x.room,.int .i64 x.uses,.slice t.a3 t.n3 t.c3,.slice t.a4 t.n4 t.c4,.slice t.a5 t.n5 t.c5,.slice t.a6 t.n6 t.c6,.slice t.a7 t.n7 t.c7,.int .i64 x.need,.int .i64 x.nomap,.int .i64 x.noany,.slice t.a8 t.n8 t.c8,.slice t.a9 t.n9 t.c9] 46 (0,0))
  | _=>w.heap[G]? = some (.cells #[.int .i64 x.ser,.slice s.a1 s.n1 s.c1,.slice s.a2 s.n2 s.c2,.int .i64 x.frm,.int .i64 x.til,.int .i64 x.key.1,.int .u64 x.key.2.1,.int .i64 x.key.2.2,.bool x.ca,.int .i64 x.room,.int .i64 x.uses,.slice s.a3 s.n3 s.c3,.slice s.a4 s.n4 s.c4,.slice s.a5 s.n5 s.c5,.slice s.a6 s.n6 s.c6,.slice s.a7 s.n7 s.c7,.int .i64 x.need,.int .i64 x.nomap,.int .i64 x.noany,.slice s.a8 s.n8 s.c8,.slice s.a9 s.n9 s.c9] 34 (0,0))
theorem ls10_stb (s t:CES)(x:CE)(sc yy hh:Int)(vb:Bool)(gx G B:Nat)(k:Nat)(hk:k<7):StB ((ls10 s t x sc yy hh vb gx G (B)).fact k):=by
 match k,hk with
 | 0,_=>exact fun _ _ _ h _=>h
 | 1,_=>exact fun _ _ _ h _=>h
 | 2,_=>exact fun _ _ _ ⟨u,hv,q_0⟩ hb=>⟨u,hv,q_0.kept hb⟩
 | 3,_=>exact fun _ _ _ h _=>h
 | 4,_=>exact fun _ _ _ h _=>h
 | 5,_=>exact fun _ _ _ q_0 hb=>below_kept q_0 hb
 | 6,_=>exact fun _ _ _ q_0 hb=>below_kept q_0 hb
 | k+7,hk=>omega
theorem lawCertSigned_walk (s:CES)(x:CE)(sc yy hh:Int)(w:World)(hm:MaxW w)(hu:U64 x.key.2.1)(hy:U64 yy)(h:CER w s x) :
  Calls Tryz.prog 6 #[CEv s x,kpv sc yy hh] w fun e w'=>e=.returned (.bool true)∧Below w.heap.size w w':=by
 obtain ⟨bo,l,hcb,hcl⟩:=cbR_any 1 x
 have HCB:Hid (CbR 1 x bo l):=hcb
 obtain ⟨vb,hvb⟩:∃ vb,vb=csV bo sc yy hh l x.sig:=⟨_,rfl⟩
 have HVB:Hid (vb=csV bo sc yy hh l x.sig):=hvb
 have HK:Hid (CER w s x):=h
 have HM:Hid (∀ W,Below w.heap.size w W→MaxW W):=fun W hW=>hm.kept hW
 have HU:Hid (U64 x.key.2.1):=hu
 have HY:Hid (U64 yy):=hy
 clear h hm hu hy hcb hvb
 show Calls Tryz.prog 6 #[.agg #[.int .i64 x.ser,.slice s.a1 s.n1 s.c1,.slice s.a2 s.n2 s.c2,.int .i64 x.frm,.int .i64 x.til,.int .i64 x.key.1,.int .u64 x.key.2.1,.int .i64 x.key.2.2,.bool x.ca,.int .i64 x.room,.int .i64 x.uses,.slice s.a3 s.n3 s.c3,.slice s.a4 s.n4 s.c4,.slice s.a5 s.n5 s.c5,.slice s.a6 s.n6 s.c6,.slice s.a7 s.n7 s.c7,.int .i64 x.need,.int .i64 x.nomap,.int .i64 x.noany,.slice s.a8 s.n8 s.c8,.slice s.a9 s.n9 s.c9],.agg #[.int .i64 sc,.int .u64 yy,.int .i64 hh]] w _
 obtain ⟨w0,hw0⟩:∃ w0,w0=(w.alloc (.cells #[.int .i64 x.ser,.slice s.a1 s.n1 s.c1,.slice s.a2 s.n2 s.c2,.int .i64 x.frm,.int .i64 x.til,.int .i64 x.key.1,.int .u64 x.key.2.1,.int .i64 x.key.2.2,.bool x.ca,.int .i64 x.room,.int .i64 x.uses,.slice s.a3 s.n3 s.c3,.slice s.a4 s.n4 s.c4,.slice s.a5 s.n5 s.c5,.slice s.a6 s.n6 s.c6,.slice s.a7 s.n7 s.c7,.int .i64 x.need,.int .i64 x.nomap,.int .i64 x.noany,.slice s.a8 s.n8 s.c8,.slice s.a9 s.n9 s.c9] 34)).alloc (.cells #[.int .i64 sc,.int .u64 yy,.int .i64 hh] 27):=⟨_,rfl⟩
 have B0:Hid (Below w.heap.size w w0):=by show Below _ _ _; rw [hw0]; exact ((Below.refl _ _).alloc (Nat.le_refl _) _).alloc (by simp) _
 have hbx:=two_blocks w (.cells #[.int .i64 x.ser,.slice s.a1 s.n1 s.c1,.slice s.a2 s.n2 s.c2,.int .i64 x.frm,.int .i64 x.til,.int .i64 x.key.1,.int .u64 x.key.2.1,.int .i64 x.key.2.2,.bool x.ca,.int .i64 x.room,.int .i64 x.uses,.slice s.a3 s.n3 s.c3,.slice s.a4 s.n4 s.c4,.slice s.a5 s.n5 s.c5,.slice s.a6 s.n6 s.c6,.slice s.a7 s.n7 s.c7,.int .i64 x.need,.int .i64 x.nomap,.int .i64 x.noany,.slice s.a8 s.n8 s.c8,.slice s.a9 s.n9 s.c9] 34) (.cells #[.int .i64 sc,.int .u64 yy,.int .i64 hh] 27)
 rw [← hw0] at hbx
 have L0:Hid (w0.heap[w.heap.size]? = some (.cells #[.int .i64 x.ser,.slice s.a1 s.n1 s.c1,.slice s.a2 s.n2 s.c2,.int .i64 x.frm,.int .i64 x.til,.int .i64 x.key.1,.int .u64 x.key.2.1,.int .i64 x.key.2.2,.bool x.ca,.int .i64 x.room,.int .i64 x.uses,.slice s.a3 s.n3 s.c3,.slice s.a4 s.n4 s.c4,.slice s.a5 s.n5 s.c5,.slice s.a6 s.n6 s.c6,.slice s.a7 s.n7 s.c7,.int .i64 x.need,.int .i64 x.nomap,.int .i64 x.noany,.slice s.a8 s.n8 s.c8,.slice s.a9 s.n9 s.c9] 34 (0,0))):=hbx.1
 have P0:Hid (w0.heap[w.heap.size+1]? = some (.cells #[.int .i64 sc,.int .u64 yy,.int .i64 hh] 27 (0,0))):=hbx.2
 clear hbx
 have HSZ:Hid (∀ W,Below w.heap.size w W→Calls Tryz.prog 8 #[.agg #[.int .i64 x.ser,.slice s.a1 s.n1 s.c1,.slice s.a2 s.n2 s.c2,.int .i64 x.frm,.int .i64 x.til,.int .i64 x.key.1,.int .u64 x.key.2.1,.int .i64 x.key.2.2,.bool x.ca,.int .i64 x.room,.int .i64 x.uses,.slice s.a3 s.n3 s.c3,.slice s.a4 s.n4 s.c4,.slice s.a5 s.n5 s.c5,.slice s.a6 s.n6 s.c6,.slice s.a7 s.n7 s.c7,.int .i64 x.need,.int .i64 x.nomap,.int .i64 x.noany,.slice s.a8 s.n8 s.c8,.slice s.a9 s.n9 s.c9],.int .i64 1048576] W fun e w'=>∃ r,e=.returned (.int .i64 r)∧(r<0∨(0≤r∧r≤1048576∧CEZ x))∧Below W.heap.size W w'):=fun W hW=>szCert_k s x 1048576 W (HK.out.kept hW) (by decide) (by decide)
 go_enter Tryz.func6,Tryz.ntmps6
 go_upto_region 1 with fail
 rw [← hw0]
 clear hw0
 go_wp2_with (first | (refine wpList_load_row rfl 34 _ rfl w.heap.size rfl 34 #[.int .i64 x.ser,.slice s.a1 s.n1 s.c1,.slice s.a2 s.n2 s.c2,.int .i64 x.frm,.int .i64 x.til,.int .i64 x.key.1,.int .u64 x.key.2.1,.int .i64 x.key.2.2,.bool x.ca,.int .i64 x.room,.int .i64 x.uses,.slice s.a3 s.n3 s.c3,.slice s.a4 s.n4 s.c4,.slice s.a5 s.n5 s.c5,.slice s.a6 s.n6 s.c6,.slice s.a7 s.n7 s.c7,.int .i64 x.need,.int .i64 x.nomap,.int .i64 x.noany,.slice s.a8 s.n8 s.c8,.slice s.a9 s.n9 s.c9] (0,0) _ L0.out Tryz.underlying34 rfl infoSizeL9 ?_) | fail)
 refine (HSZ.out _ B0.out).mono ?_
 rintro e w1 ⟨r,rfl,hr,hb1⟩
 have B1:Hid (Below w.heap.size w w1):=B0.out.trans (hb1.mono B0.out.size)
 have L1:Hid (w1.heap[w.heap.size]? = some (.cells #[.int .i64 x.ser,.slice s.a1 s.n1 s.c1,.slice s.a2 s.n2 s.c2,.int .i64 x.frm,.int .i64 x.til,.int .i64 x.key.1,.int .u64 x.key.2.1,.int .i64 x.key.2.2,.bool x.ca,.int .i64 x.room,.int .i64 x.uses,.slice s.a3 s.n3 s.c3,.slice s.a4 s.n4 s.c4,.slice s.a5 s.n5 s.c5,.slice s.a6 s.n6 s.c6,.slice s.a7 s.n7 s.c7,.int .i64 x.need,.int .i64 x.nomap,.int .i64 x.noany,.slice s.a8 s.n8 s.c8,.slice s.a9 s.n9 s.c9] 34 (0,0))):=below_kept L0.out hb1
 have P1:Hid (w1.heap[w.heap.size+1]? = some (.cells #[.int .i64 sc,.int .u64 yy,.int .i64 hh] 27 (0,0))):=below_kept P0.out hb1
 clear hb1 B0 L0 P0 HSZ
 by_cases hneg:r<0
 ·clear hr
  go_wp2
  go_ret
  exact ⟨rfl,B1.out⟩
 have HZ:Hid (CEZ x):=by rcases hr with h | h; exact absurd h hneg; exact h.2.2
 clear hr
 have HTO:Hid (∀ W,Below w.heap.size w W→Calls Tryz.prog 10 #[.agg #[.int .i64 x.ser,.slice s.a1 s.n1 s.c1,.slice s.a2 s.n2 s.c2,.int .i64 x.frm,.int .i64 x.til,.int .i64 x.key.1,.int .u64 x.key.2.1,.int .i64 x.key.2.2,.bool x.ca,.int .i64 x.room,.int .i64 x.uses,.slice s.a3 s.n3 s.c3,.slice s.a4 s.n4 s.c4,.slice s.a5 s.n5 s.c5,.slice s.a6 s.n6 s.c6,.slice s.a7 s.n7 s.c7,.int .i64 x.need,.int .i64 x.nomap,.int .i64 x.noany,.slice s.a8 s.n8 s.c8,.slice s.a9 s.n9 s.c9]] W fun e w'=>∃ t:CES,e=.returned (CEv t x)∧CET t∧CER w' t x∧Below W.heap.size W w'):=fun W hW=>(toCert_k s x W (HK.out.kept hW) HZ.out).mono fun e w' ⟨t,h1,h2,h3,h4⟩=>⟨t,h1,h2,h3.now,h4⟩
 have HTP:Hid (∀ W,Calls Tryz.prog 22 #[.agg #[.int .i64 sc,.int .u64 yy,.int .i64 hh]] W fun e w'=>e=.returned (.agg #[.int .i64 sc,.int .u64 yy,.int .i64 hh])∧Below W.heap.size W w'):=fun W=>toPub_any sc yy hh W
 have HTD:Hid (∀ W,Below w1.heap.size w1 W→Calls Tryz.prog 10 #[.agg #[.int .i64 x.ser,.slice s.a1 s.n1 s.c1,.slice s.a2 s.n2 s.c2,.int .i64 x.frm,.int .i64 x.til,.int .i64 x.key.1,.int .u64 x.key.2.1,.int .i64 x.key.2.2,.bool x.ca,.int .i64 x.room,.int .i64 x.uses,.slice s.a3 s.n3 s.c3,.slice s.a4 s.n4 s.c4,.slice s.a5 s.n5 s.c5,.slice s.a6 s.n6 s.c6,.slice s.a7 s.n7 s.c7,.int .i64 x.need,.int .i64 x.nomap,.int .i64 x.noany,.slice s.a8 s.n8 s.c8,.slice s.a9 s.n9 s.c9]] W fun e w'=>∃ u:CES,e=.returned (CEv u x)∧CET u∧CER w' u x∧Below W.heap.size W w'):=fun W hW=>HTO.out W (B1.out.trans (hW.mono B1.out.size))
 have HSP:Hid (∀ W (u:CES),Below w1.heap.size w1 W→CER W u x→CET u→Calls Tryz.prog 21 #[CEv u x,.agg #[.int .i64 sc,.int .u64 yy,.int .i64 hh]] W fun e w'=>e=.returned (.bool vb)∧Below W.heap.size W w'):=fun W u hW hk hu=>by rw [HVB.out]; exact specCertSigned_any u x sc yy hh bo l W hk HZ.out hu HU.out HY.out (by have:=hu.2.2.2.2.2.2.2.2; omega) HCB.out hcl
 have HBB:w1.heap.size≤w1.heap.size:=Nat.le_refl _
 go_upto_region 5 with fail
 have stb:=ls5_stb s x sc yy hh vb w.heap.size (w1.heap.size)
 refine wp_region_ri (ls5 s x sc yy hh vb w.heap.size (w1.heap.size)) [6,14,15,16,17,18] (w1.heap.size) (fun a0=>a0.tmps.size=33∧aT a0 2=.pointer (some ⟨w.heap.size,0,none⟩)∧aT a0 3=.pointer (some ⟨(w.heap.size+1),0,none⟩)) (by kernel_rfl) rfl (by kernel_rfl) rfl ⟨rfl,rfl,rfl⟩ stb ?_ ?_ ?_
 ·exact vt2 (m:=6) (L1.out) (P1.out)
 ·rintro a0 ⟨hz,g2,g3⟩
  refine StepsRI.cons ?_ (StepsRI.cons ?_ (StepsRI.cons ?_ (StepsRI.cons ?_ (StepsRI.cons ?_ (StepsRI.cons ?_ (StepsRI.nil))))))
  all_goals intro lQ b W hI hUN hED KQ hKQ
  ·have hg:=(hI.vo 6)
   refine wp_load_row 34 _ rfl (w.heap.size) ((hI.fr.same 2 (by decide)).trans g2) 34 _ (0,0) _ hg Tryz.underlying34 rfl (by kernel_rfl) ?_
   exact hKQ.out _ _ (hI.pu 0 14 hz hUN HBB stb (Below.refl _ _) rfl)
  ·have f0:=hI.ge 0 hED
   replace f0:aT b 14=_:=f0
   refine opw_c1 10 14 Tryz.func10 f0 ?_
   refine (HTD.out W hI.bel).mono ?_
   rintro e W2 ⟨u,rfl,ht,hk,hb⟩
   exact ⟨_,rfl,hKQ.out _ _ (hI.pu 1 15 hz hUN HBB stb hb ⟨u,rfl,hk,ht⟩)⟩
  ·have hg:=(hI.vo 7)
   refine wp_load_row 27 _ rfl ((w.heap.size+1)) ((hI.fr.same 3 (by decide)).trans g3) 27 _ (0,0) _ hg Tryz.underlying27 rfl (by kernel_rfl) ?_
   exact hKQ.out _ _ (hI.pu 2 16 hz hUN HBB stb (Below.refl _ _) rfl)
  ·have f0:=hI.ge 2 hED
   replace f0:aT b 16=_:=f0
   refine opw_c1 22 16 Tryz.func22 f0 ?_
   refine (HTP.out W).mono ?_
   rintro e W2 ⟨rfl,hb⟩
   exact ⟨_,rfl,hKQ.out _ _ (hI.pu 3 17 hz hUN HBB stb hb rfl)⟩
  ·have f0:=hI.ge 1 hED
   obtain ⟨u,f0,o0_0,o0_1⟩:=f0
   replace f0:aT b 15=_:=f0
   have f1:=hI.ge 3 hED
   replace f1:aT b 17=_:=f1
   refine opw_c2 21 15 17 Tryz.func21 f0 f1 ?_
   refine (HSP.out W u hI.bel o0_0 o0_1).mono ?_
   rintro e W2 ⟨rfl,hb⟩
   exact ⟨_,rfl,hKQ.out _ _ (hI.pu 4 18 hz hUN HBB stb hb rfl)⟩
  ·have f:=hI.ge 4 hED
   exact opw_assign 18 rfl (hKQ.out _ _ (hI.pu 5 6 hz hUN HBB stb (Below.refl _ _) f))
 ·intro b W hf hb F
  clear stb
  have e6:aT b 6=.bool vb:=F 5 (od rfl) rfl
  rw [hf.eq]
  simp only [puts,Act.put,List.setIfInBounds_toArray,List.set_cons_zero,List.set_cons_succ,e6]
  clear hf F e6
  generalize aT b=AT
  clear b
  obtain ⟨w3,hw3⟩:∃ w3,w3=W:=⟨_,rfl⟩
  rw [← hw3] at hb ⊢
  have B3:Hid (Below w.heap.size w w3):=B1.out.trans (hb.mono B1.out.size)
  have L3:Hid (w3.heap[w.heap.size]? = some (.cells #[.int .i64 x.ser,.slice s.a1 s.n1 s.c1,.slice s.a2 s.n2 s.c2,.int .i64 x.frm,.int .i64 x.til,.int .i64 x.key.1,.int .u64 x.key.2.1,.int .i64 x.key.2.2,.bool x.ca,.int .i64 x.room,.int .i64 x.uses,.slice s.a3 s.n3 s.c3,.slice s.a4 s.n4 s.c4,.slice s.a5 s.n5 s.c5,.slice s.a6 s.n6 s.c6,.slice s.a7 s.n7 s.c7,.int .i64 x.need,.int .i64 x.nomap,.int .i64 x.noany,.slice s.a8 s.n8 s.c8,.slice s.a9 s.n9 s.c9] 34 (0,0))):=below_kept L1.out hb
  have P3:Hid (w3.heap[w.heap.size+1]? = some (.cells #[.int .i64 sc,.int .u64 yy,.int .i64 hh] 27 (0,0))):=below_kept P1.out hb
  clear hb hw3 B1 L1 P1 HTD HSP HBB
  go_wp2_with (first | (refine wpList_load_row rfl 34 _ rfl w.heap.size rfl 34 #[.int .i64 x.ser,.slice s.a1 s.n1 s.c1,.slice s.a2 s.n2 s.c2,.int .i64 x.frm,.int .i64 x.til,.int .i64 x.key.1,.int .u64 x.key.2.1,.int .i64 x.key.2.2,.bool x.ca,.int .i64 x.room,.int .i64 x.uses,.slice s.a3 s.n3 s.c3,.slice s.a4 s.n4 s.c4,.slice s.a5 s.n5 s.c5,.slice s.a6 s.n6 s.c6,.slice s.a7 s.n7 s.c7,.int .i64 x.need,.int .i64 x.nomap,.int .i64 x.noany,.slice s.a8 s.n8 s.c8,.slice s.a9 s.n9 s.c9] (0,0) _ L3.out Tryz.underlying34 rfl infoSizeL9 ?_) | fail)
  refine (HTO.out _ B3.out).mono ?_
  rintro e w4 ⟨t,rfl,ht,hk4,hb4⟩
  have B4:Hid (Below w.heap.size w w4):=B3.out.trans (hb4.mono B3.out.size)
  have L4:Hid (w4.heap[w.heap.size]? = some (.cells #[.int .i64 x.ser,.slice s.a1 s.n1 s.c1,.slice s.a2 s.n2 s.c2,.int .i64 x.frm,.int .i64 x.til,.int .i64 x.key.1,.int .u64 x.key.2.1,.int .i64 x.key.2.2,.bool x.ca,.int .i64 x.room,.int .i64 x.uses,.slice s.a3 s.n3 s.c3,.slice s.a4 s.n4 s.c4,.slice s.a5 s.n5 s.c5,.slice s.a6 s.n6 s.c6,.slice s.a7 s.n7 s.c7,.int .i64 x.need,.int .i64 x.nomap,.int .i64 x.noany,.slice s.a8 s.n8 s.c8,.slice s.a9 s.n9 s.c9] 34 (0,0))):=below_kept L3.out hb4
  have P4:Hid (w4.heap[w.heap.size+1]? = some (.cells #[.int .i64 sc,.int .u64 yy,.int .i64 hh] 27 (0,0))):=below_kept P3.out hb4
  have hz4:(w4.alloc (.cells #[.int .i64 0,.slice none 0 0,.slice none 0 0,.int .i64 0,.int .i64 0,.int .i64 0,.int .u64 0,.int .i64 0,.bool false,.int .i64 0,.int .i64 0,.slice none 0 0,.slice none 0 0,.slice none 0 0,.slice none 0 0,.slice none 0 0,.int .i64 0,.int .i64 0,.int .i64 0,.slice none 0 0,.slice none 0 0] 46)).heap[w4.heap.size]? = some (.cells #[.int .i64 0,.slice none 0 0,.slice none 0 0,.int .i64 0,.int .i64 0,.int .i64 0,.int .u64 0,.int .i64 0,.bool false,.int .i64 0,.int .i64 0,.slice none 0 0,.slice none 0 0,.slice none 0 0,.slice none 0 0,.slice none 0 0,.int .i64 0,.int .i64 0,.int .i64 0,.slice none 0 0,.slice none 0 0] 46 (0,0)):=heap_alloc_new w4 _
  have HZ4:Hid (_=_):=hz4
  obtain ⟨w5,hw5⟩:∃ w5,w5=(w4.alloc (.cells #[.int .i64 0,.slice none 0 0,.slice none 0 0,.int .i64 0,.int .i64 0,.int .i64 0,.int .u64 0,.int .i64 0,.bool false,.int .i64 0,.int .i64 0,.slice none 0 0,.slice none 0 0,.slice none 0 0,.slice none 0 0,.slice none 0 0,.int .i64 0,.int .i64 0,.int .i64 0,.slice none 0 0,.slice none 0 0] 46)).setRow w4.heap.size #[.int .i64 x.ser,.slice t.a1 t.n1 t.c1,.slice t.a2 t.n2 t.c2,.int .i64 x.frm,.int .i64 x.til,.int .i64 x.key.1,.int .u64 x.key.2.1,.int .i64 x.key.2.2,.bool x.ca,.int .i64 x.room,.int .i64 x.uses,.slice t.a3 t.n3 t.c3,.slice t.a4 t.n4 t.c4,.slice t.a5 t.n5 t.c5,.slice t.a6 t.n6 t.c6,.slice t.a7 t.n7 t.c7,.int .i64 x.need,.int .i64 x.nomap,.int .i64 x.noany,.slice t.a8 t.n8 t.c8,.slice t.a9 t.n9 t.c9]:=⟨_,rfl⟩
  have hb5:Below w4.heap.size w4 w5:=by rw [hw5]; exact below_setRow ((Below.refl _ _).alloc (Nat.le_refl _) _) (Nat.le_refl _) _
  have X5:Hid (w5.heap[w4.heap.size]? = some (.cells #[.int .i64 x.ser,.slice t.a1 t.n1 t.c1,.slice t.a2 t.n2 t.c2,.int .i64 x.frm,.int .i64 x.til,.int .i64 x.key.1,.int .u64 x.key.2.1,.int .i64 x.key.2.2,.bool x.ca,.int .i64 x.room,.int .i64 x.uses,.slice t.a3 t.n3 t.c3,.slice t.a4 t.n4 t.c4,.slice t.a5 t.n5 t.c5,.slice t.a6 t.n6 t.c6,.slice t.a7 t.n7 t.c7,.int .i64 x.need,.int .i64 x.nomap,.int .i64 x.noany,.slice t.a8 t.n8 t.c8,.slice t.a9 t.n9 t.c9] 46 (0,0))):=by show _=_; rw [hw5]; exact setRow_heap _ _ _ _ _ _ hz4
  have B5:Hid (Below w.heap.size w w5):=B4.out.trans (hb5.mono B4.out.size)
  have L5:Hid (w5.heap[w.heap.size]? = some (.cells #[.int .i64 x.ser,.slice s.a1 s.n1 s.c1,.slice s.a2 s.n2 s.c2,.int .i64 x.frm,.int .i64 x.til,.int .i64 x.key.1,.int .u64 x.key.2.1,.int .i64 x.key.2.2,.bool x.ca,.int .i64 x.room,.int .i64 x.uses,.slice s.a3 s.n3 s.c3,.slice s.a4 s.n4 s.c4,.slice s.a5 s.n5 s.c5,.slice s.a6 s.n6 s.c6,.slice s.a7 s.n7 s.c7,.int .i64 x.need,.int .i64 x.nomap,.int .i64 x.noany,.slice s.a8 s.n8 s.c8,.slice s.a9 s.n9 s.c9] 34 (0,0))):=below_kept L4.out hb5
  have P5:Hid (w5.heap[w.heap.size+1]? = some (.cells #[.int .i64 sc,.int .u64 yy,.int .i64 hh] 27 (0,0))):=below_kept P4.out hb5
  have K5:Hid (CER w5 t x):=hk4.kept hb5
  have HIP:Hid (∀ W,Below w5.heap.size w5 W→Calls Tryz.prog 23 #[.agg #[.int .i64 x.ser,.slice t.a1 t.n1 t.c1,.slice t.a2 t.n2 t.c2,.int .i64 x.frm,.int .i64 x.til,.int .i64 x.key.1,.int .u64 x.key.2.1,.int .i64 x.key.2.2,.bool x.ca,.int .i64 x.room,.int .i64 x.uses,.slice t.a3 t.n3 t.c3,.slice t.a4 t.n4 t.c4,.slice t.a5 t.n5 t.c5,.slice t.a6 t.n6 t.c6,.slice t.a7 t.n7 t.c7,.int .i64 x.need,.int .i64 x.nomap,.int .i64 x.noany,.slice t.a8 t.n8 t.c8,.slice t.a9 t.n9 t.c9],.agg #[.int .i64 sc,.int .u64 yy,.int .i64 hh]] W fun e w'=>e=.returned (.bool vb)∧Below W.heap.size W w'):=fun W hW=>by rw [HVB.out]; exact implCertSigned_any t x sc yy hh bo l W (HM.out _ (B5.out.trans (hW.mono B5.out.size))) (K5.out.kept hW) HZ.out ht HU.out HY.out (by have:=ht.2.2.2.2.2.2.2.2; omega) HCB.out hcl
  have HBB:w5.heap.size≤w5.heap.size:=Nat.le_refl _
  have HW5:Hid (_=_):=hw5
  clear hw5 hb4 hb5 hk4 B3 L3 P3 B4 L4 P4 hz4
  go_upto_region 7 with (first | (refine wpList_store_rowTo rfl 46 _ _ rfl rfl w4.heap.size #[.int .i64 x.ser,.slice t.a1 t.n1 t.c1,.slice t.a2 t.n2 t.c2,.int .i64 x.frm,.int .i64 x.til,.int .i64 x.key.1,.int .u64 x.key.2.1,.int .i64 x.key.2.2,.bool x.ca,.int .i64 x.room,.int .i64 x.uses,.slice t.a3 t.n3 t.c3,.slice t.a4 t.n4 t.c4,.slice t.a5 t.n5 t.c5,.slice t.a6 t.n6 t.c6,.slice t.a7 t.n7 t.c7,.int .i64 x.need,.int .i64 x.nomap,.int .i64 x.noany,.slice t.a8 t.n8 t.c8,.slice t.a9 t.n9 t.c9] rfl rfl 46 #[.int .i64 0,.slice none 0 0,.slice none 0 0,.int .i64 0,.int .i64 0,.int .i64 0,.int .u64 0,.int .i64 0,.bool false,.int .i64 0,.int .i64 0,.slice none 0 0,.slice none 0 0,.slice none 0 0,.slice none 0 0,.slice none 0 0,.int .i64 0,.int .i64 0,.int .i64 0,.slice none 0 0,.slice none 0 0] HZ4.out infoSize9 rfl (by simp [Value.oneCell']) ?_) | fail)
  rw [← HW5.out]
  clear HW5 HZ4
  have stb:=ls7_stb s t x sc yy hh vb w4.heap.size w.heap.size (w5.heap.size)
  refine wp_region_ri (ls7 s t x sc yy hh vb w4.heap.size w.heap.size (w5.heap.size)) [8,21,22,23,24] (w5.heap.size) (fun a0=>a0.tmps.size=33∧aT a0 3=.pointer (some ⟨(w.heap.size+1),0,none⟩)∧aT a0 7=.pointer (some ⟨w4.heap.size,0,none⟩)) (by kernel_rfl) rfl (by kernel_rfl) rfl ⟨rfl,rfl,rfl⟩ stb ?_ ?_ ?_
  ·exact vt2 (m:=5) (X5.out) (P5.out)
  ·rintro a0 ⟨hz,g3,g7⟩
   refine StepsRI.cons ?_ (StepsRI.cons ?_ (StepsRI.cons ?_ (StepsRI.cons ?_ (StepsRI.cons ?_ (StepsRI.nil)))))
   all_goals intro lQ b W hI hUN hED KQ hKQ
   ·have hg:=(hI.vo 5)
    refine wp_load_row 46 _ rfl (w4.heap.size) ((hI.fr.same 7 (by decide)).trans g7) 46 _ (0,0) _ hg Tryz.underlying46 rfl (by kernel_rfl) ?_
    exact hKQ.out _ _ (hI.pu 0 21 hz hUN HBB stb (Below.refl _ _) rfl)
   ·have hg:=(hI.vo 6)
    refine wp_load_row 27 _ rfl ((w.heap.size+1)) ((hI.fr.same 3 (by decide)).trans g3) 27 _ (0,0) _ hg Tryz.underlying27 rfl (by kernel_rfl) ?_
    exact hKQ.out _ _ (hI.pu 1 22 hz hUN HBB stb (Below.refl _ _) rfl)
   ·have f0:=hI.ge 1 hED
    replace f0:aT b 22=_:=f0
    refine opw_c1 22 22 Tryz.func22 f0 ?_
    refine (HTP.out W).mono ?_
    rintro e W2 ⟨rfl,hb⟩
    exact ⟨_,rfl,hKQ.out _ _ (hI.pu 2 23 hz hUN HBB stb hb rfl)⟩
   ·have f0:=hI.ge 0 hED
    replace f0:aT b 21=_:=f0
    have f1:=hI.ge 2 hED
    replace f1:aT b 23=_:=f1
    refine opw_c2 23 21 23 Tryz.func23 f0 f1 ?_
    refine (HIP.out W hI.bel).mono ?_
    rintro e W2 ⟨rfl,hb⟩
    exact ⟨_,rfl,hKQ.out _ _ (hI.pu 3 24 hz hUN HBB stb hb rfl)⟩
   ·have f:=hI.ge 3 hED
    exact opw_assign 24 rfl (hKQ.out _ _ (hI.pu 4 8 hz hUN HBB stb (Below.refl _ _) f))
  ·intro b W hf hb F
   clear stb
   have e8:aT b 8=.bool vb:=F 4 (od rfl) rfl
   rw [hf.eq]
   simp only [puts,Act.put,List.setIfInBounds_toArray,List.set_cons_zero,List.set_cons_succ,e8]
   clear hf F e8
   generalize aT b=AT
   clear b
   obtain ⟨w6,hw6⟩:∃ w6,w6=W:=⟨_,rfl⟩
   rw [← hw6] at hb ⊢
   have B6:Hid (Below w.heap.size w w6):=B5.out.trans (hb.mono B5.out.size)
   have L6:Hid (w6.heap[w.heap.size]? = some (.cells #[.int .i64 x.ser,.slice s.a1 s.n1 s.c1,.slice s.a2 s.n2 s.c2,.int .i64 x.frm,.int .i64 x.til,.int .i64 x.key.1,.int .u64 x.key.2.1,.int .i64 x.key.2.2,.bool x.ca,.int .i64 x.room,.int .i64 x.uses,.slice s.a3 s.n3 s.c3,.slice s.a4 s.n4 s.c4,.slice s.a5 s.n5 s.c5,.slice s.a6 s.n6 s.c6,.slice s.a7 s.n7 s.c7,.int .i64 x.need,.int .i64 x.nomap,.int .i64 x.noany,.slice s.a8 s.n8 s.c8,.slice s.a9 s.n9 s.c9] 34 (0,0))):=below_kept L5.out hb
   have X6:Hid (w6.heap[w4.heap.size]? = some (.cells #[.int .i64 x.ser,.slice t.a1 t.n1 t.c1,.slice t.a2 t.n2 t.c2,.int .i64 x.frm,.int .i64 x.til,.int .i64 x.key.1,.int .u64 x.key.2.1,.int .i64 x.key.2.2,.bool x.ca,.int .i64 x.room,.int .i64 x.uses,.slice t.a3 t.n3 t.c3,.slice t.a4 t.n4 t.c4,.slice t.a5 t.n5 t.c5,.slice t.a6 t.n6 t.c6,.slice t.a7 t.n7 t.c7,.int .i64 x.need,.int .i64 x.nomap,.int .i64 x.noany,.slice t.a8 t.n8 t.c8,.slice t.a9 t.n9 t.c9] 46 (0,0))):=below_kept X5.out hb
   have K6:Hid (CER w6 t x):=K5.out.kept hb
   have tne:(vb != vb)=false:=by simp
   have HTD:Hid (∀ W,Below w6.heap.size w6 W→Calls Tryz.prog 10 #[.agg #[.int .i64 x.ser,.slice s.a1 s.n1 s.c1,.slice s.a2 s.n2 s.c2,.int .i64 x.frm,.int .i64 x.til,.int .i64 x.key.1,.int .u64 x.key.2.1,.int .i64 x.key.2.2,.bool x.ca,.int .i64 x.room,.int .i64 x.uses,.slice s.a3 s.n3 s.c3,.slice s.a4 s.n4 s.c4,.slice s.a5 s.n5 s.c5,.slice s.a6 s.n6 s.c6,.slice s.a7 s.n7 s.c7,.int .i64 x.need,.int .i64 x.nomap,.int .i64 x.noany,.slice s.a8 s.n8 s.c8,.slice s.a9 s.n9 s.c9]] W fun e w'=>∃ u:CES,e=.returned (CEv u x)∧CET u∧CER w' u x∧Below W.heap.size W w'):=fun W hW=>HTO.out W (B6.out.trans (hW.mono B6.out.size))
   have HEQ:Hid (∀ W (u:CES),Below w6.heap.size w6 W→CER W u x→Calls Tryz.prog 13 #[.agg #[.int .i64 x.ser,.slice t.a1 t.n1 t.c1,.slice t.a2 t.n2 t.c2,.int .i64 x.frm,.int .i64 x.til,.int .i64 x.key.1,.int .u64 x.key.2.1,.int .i64 x.key.2.2,.bool x.ca,.int .i64 x.room,.int .i64 x.uses,.slice t.a3 t.n3 t.c3,.slice t.a4 t.n4 t.c4,.slice t.a5 t.n5 t.c5,.slice t.a6 t.n6 t.c6,.slice t.a7 t.n7 t.c7,.int .i64 x.need,.int .i64 x.nomap,.int .i64 x.noany,.slice t.a8 t.n8 t.c8,.slice t.a9 t.n9 t.c9],CEv u x] W fun e w'=>e=.returned (.bool true)∧Below W.heap.size W w'):=fun W u hW hu=>eqCert_k t u x W (K6.out.kept hW) hu HZ.out
   have HBB:w6.heap.size≤w6.heap.size:=Nat.le_refl _
   clear hb hw6 B5 L5 X5 P5 K5 HIP
   go_upto_region 10 with fail
   have stb:=ls10_stb s t x sc yy hh vb w4.heap.size w.heap.size (w6.heap.size)
   refine wp_region_ri (ls10 s t x sc yy hh vb w4.heap.size w.heap.size (w6.heap.size)) [28,29,30,31,32] (w6.heap.size) (fun a0=>a0.tmps.size=33∧aT a0 2=.pointer (some ⟨w.heap.size,0,none⟩)∧aT a0 7=.pointer (some ⟨w4.heap.size,0,none⟩)) (by kernel_rfl) rfl (by kernel_rfl) rfl ⟨rfl,rfl,rfl⟩ stb ?_ ?_ ?_
   ·exact vt2 (m:=5) (X6.out) (L6.out)
   ·rintro a0 ⟨hz,g2,g7⟩
    refine StepsRI.cons ?_ (StepsRI.cons ?_ (StepsRI.cons ?_ (StepsRI.cons ?_ (StepsRI.cons ?_ (StepsRI.nil)))))
    all_goals intro lQ b W hI hUN hED KQ hKQ
    ·have hg:=(hI.vo 5)
     refine wp_load_row 46 _ rfl (w4.heap.size) ((hI.fr.same 7 (by decide)).trans g7) 46 _ (0,0) _ hg Tryz.underlying46 rfl (by kernel_rfl) ?_
     exact hKQ.out _ _ (hI.pu 0 28 hz hUN HBB stb (Below.refl _ _) rfl)
    ·have hg:=(hI.vo 6)
     refine wp_load_row 34 _ rfl (w.heap.size) ((hI.fr.same 2 (by decide)).trans g2) 34 _ (0,0) _ hg Tryz.underlying34 rfl (by kernel_rfl) ?_
     exact hKQ.out _ _ (hI.pu 1 29 hz hUN HBB stb (Below.refl _ _) rfl)
    ·have f0:=hI.ge 1 hED
     replace f0:aT b 29=_:=f0
     refine opw_c1 10 29 Tryz.func10 f0 ?_
     refine (HTD.out W hI.bel).mono ?_
     rintro e W2 ⟨u,rfl,ht,hk,hb⟩
     exact ⟨_,rfl,hKQ.out _ _ (hI.pu 2 30 hz hUN HBB stb hb ⟨u,rfl,hk⟩)⟩
    ·have f0:=hI.ge 0 hED
     replace f0:aT b 28=_:=f0
     have f1:=hI.ge 2 hED
     obtain ⟨u,f1,o1_0⟩:=f1
     replace f1:aT b 30=_:=f1
     refine opw_c2 13 28 30 Tryz.func13 f0 f1 ?_
     refine (HEQ.out W u hI.bel o1_0).mono ?_
     rintro e W2 ⟨rfl,hb⟩
     exact ⟨_,rfl,hKQ.out _ _ (hI.pu 3 31 hz hUN HBB stb hb rfl)⟩
    ·have f:aT b 31=.bool true:=hI.ge 3 hED
     exact opw_not _ 31 rfl true f (hKQ.out _ _ (hI.pu 4 32 hz hUN HBB stb (Below.refl _ _) rfl))
   ·intro b W hf hb F
    clear stb
    have e32:aT b 32=.bool false:=F 4 (od rfl) rfl
    rw [hf.eq]
    simp only [puts,Act.put,List.setIfInBounds_toArray,List.set_cons_zero,List.set_cons_succ,e32]
    clear hf F e32
    generalize aT b=AT
    clear b
    go_wp2
    go_ret
    exact ⟨rfl,B6.out.trans (hb.mono B6.out.size)⟩
end Go.Proofs.YtmdfbnlgfhjnoaaGreatDoor
