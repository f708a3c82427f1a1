import Derived.Test.YtnmplldhdfingaaGreatDoorFG43
set_option maxRecDepth 10000
set_option maxHeartbeats 8000000
set_option linter.unusedVariables false
namespace Go.Proofs.YtnmplldhdfingaaGreatDoor
open Go.RowKit Go.Sort
def mss4 (p1:Option Addr)(n1 u1:Nat)(p2:Option Addr)(n2 u2:Nat)(gs:Nat)(x:CP)(sc kk hh nx:Int)(l sg:List Int)(t1 t2 t3 t4 cd:Int)(G B:Nat):RSpec where
 m:=12
 n:=14
 slots:=[20,21,22,23,19,24,25,26,8,7,8,9,100012,100013]
 kills:=[[],[],[3],[],[],[],[],[],[10],[],[],[],[],[]]
 pres:=[[],[],[],[],[],[],[],[],[],[],[8,3],[],[],[]]
 fact:=fun k v w=>match k with
  | 0=>v=.agg #[.int .i64 sc,.int .u64 kk,.int .i64 hh,.int .i64 nx]
  | 1=>v=.agg #[.slice p1 n1 u1,.int .i64 x.num,.int .i64 x.base,.int .i64 x.tm,.int .i64 x.next,.int .i64 x.scope,.bool x.ind,.slice p2 n2 u2,.slice (some ⟨gs,0,none⟩) 0 0]
  | 2=>∃ (a4:Option Addr) (c4:Nat),v=.slice a4 l.length c4∧Own B w a4 l.length c4 l
  | 3=>∃ (a5:Option Addr) (c5:Nat),v=.tuple #[.slice a5 sg.length c5,.agg #[.int .i64 t1,.int .u64 t2,.int .i64 t3,.int .i64 t4],.int .i64 cd]∧Own B w a5 sg.length c5 sg
  | 4=>∃ (a5:Option Addr) (c5:Nat),v=.tuple #[.slice a5 sg.length c5,.agg #[.int .i64 t1,.int .u64 t2,.int .i64 t3,.int .i64 t4],.int .i64 cd]∧Own B w a5 sg.length c5 sg
  | 5=>∃ (a5:Option Addr) (c5:Nat),v=.slice a5 sg.length c5∧Own B w a5 sg.length c5 sg
  | 6=>v=.agg #[.int .i64 t1,.int .u64 t2,.int .i64 t3,.int .i64 t4]
  | 7=>v=.int .i64 cd
  | 8=>∃ (gb8:Nat),v=.pointer (some ⟨gb8,0,none⟩)∧w.heap[gb8]? = some (.cells #[.int .i64 0,.int .u64 0,.int .i64 0,.int .i64 0] 39 (0,0))∧B≤gb8
  | 9=>∃ (a5:Option Addr) (c5:Nat),v=.slice a5 sg.length c5∧Own B w a5 sg.length c5 sg
  | 10=>∃ (gs10:Nat),v=.pointer (some ⟨gs10,0,none⟩)∧w.heap[gs10]? = some (.cells #[.int .i64 t1,.int .u64 t2,.int .i64 t3,.int .i64 t4] 39 (0,0))∧B≤gs10
  | 11=>v=.int .i64 cd
  | 12=>w.heap[G]? = some (.cells #[.slice p1 n1 u1,.int .i64 x.num,.int .i64 x.base,.int .i64 x.tm,.int .i64 x.next,.int .i64 x.scope,.bool x.ind,.slice p2 n2 u2,.slice (some ⟨gs,0,none⟩) 0 0] 38 (0,0))
  | _=>w.heap[(G+1)]? = some (.cells #[.int .i64 sc,.int .u64 kk,.int .i64 hh,.int .i64 nx] 39 (0,0))∧G+1<B
theorem mss4_stb (p1:Option Addr)(n1 u1:Nat)(p2:Option Addr)(n2 u2:Nat)(gs:Nat)(x:CP)(sc kk hh nx:Int)(l sg:List Int)(t1 t2 t3 t4 cd:Int)(G B:Nat)(k:Nat)(hk:k<14):StB ((mss4 p1 n1 u1 p2 n2 u2 gs x sc kk hh nx l sg t1 t2 t3 t4 cd G (B)).fact k):=by
 match k,hk with
 | 0,_=>exact fun _ _ _ h _=>h
 | 1,_=>exact fun _ _ _ h _=>h
 | 2,_=>exact fun _ _ _ ⟨a4,c4,hv,q_0⟩ hb=>⟨a4,c4,hv,q_0.kept hb⟩
 | 3,_=>exact fun _ _ _ ⟨a5,c5,hv,q_0⟩ hb=>⟨a5,c5,hv,q_0.kept hb⟩
 | 4,_=>exact fun _ _ _ ⟨a5,c5,hv,q_0⟩ hb=>⟨a5,c5,hv,q_0.kept hb⟩
 | 5,_=>exact fun _ _ _ ⟨a5,c5,hv,q_0⟩ hb=>⟨a5,c5,hv,q_0.kept hb⟩
 | 6,_=>exact fun _ _ _ h _=>h
 | 7,_=>exact fun _ _ _ h _=>h
 | 8,_=>exact fun _ _ _ ⟨gb8,hv,q_0,q_1⟩ hb=>⟨gb8,hv,below_kept q_0 hb,q_1⟩
 | 9,_=>exact fun _ _ _ ⟨a5,c5,hv,q_0⟩ hb=>⟨a5,c5,hv,q_0.kept hb⟩
 | 10,_=>exact fun _ _ _ ⟨gs10,hv,q_0,q_1⟩ hb=>⟨gs10,hv,below_kept q_0 hb,q_1⟩
 | 11,_=>exact fun _ _ _ h _=>h
 | 12,_=>exact fun _ _ _ q_0 hb=>below_kept q_0 hb
 | 13,_=>exact fun _ _ _ ⟨q_0,q_1⟩ hb=>⟨below_kept q_0 hb,q_1⟩
 | k+14,hk=>omega
theorem mss4_st10 (p1:Option Addr)(n1 u1:Nat)(p2:Option Addr)(n2 u2:Nat)(gs:Nat)(x:CP)(sc kk hh nx:Int)(l sg:List Int)(t1 t2 t3 t4 cd:Int)(G B:Nat){W W2:World}{g:Nat}{cs:Array Value}{fr:Nat × Nat}(hg:W.heap[g]? = some (.cells cs 39 fr))(ht:Touch (g) (g+1) W W2)(hge:B≤g){lq:Nat→Bool}(hcl:∀ k,k<14→lq k=true→∀ j∈(mss4 p1 n1 u1 p2 n2 u2 gs x sc kk hh nx l sg t1 t2 t3 t4 cd G (B)).pre k,lq j=true)(hun:lq 10=false)(hpr:∀ j∈(mss4 p1 n1 u1 p2 n2 u2 gs x sc kk hh nx l sg t1 t2 t3 t4 cd G (B)).pre 10,lq j=true)(k:Nat)(hk:k<14)(hne:k≠10)(hl:lq k=true)(hks:∀ j∈(mss4 p1 n1 u1 p2 n2 u2 gs x sc kk hh nx l sg t1 t2 t3 t4 cd G (B)).kill k,lq j=false)(hkill:10∉(mss4 p1 n1 u1 p2 n2 u2 gs x sc kk hh nx l sg t1 t2 t3 t4 cd G (B)).kill k)(v:Value)(hfact:(mss4 p1 n1 u1 p2 n2 u2 gs x sc kk hh nx l sg t1 t2 t3 t4 cd G (B)).fact k v W):(mss4 p1 n1 u1 p2 n2 u2 gs x sc kk hh nx l sg t1 t2 t3 t4 cd G (B)).fact k v W2:=by
 match k,hk,hne,hl,hks,hkill,hfact with
 | 0,_,_,_,_,_,hq=>exact hq
 | 1,_,_,_,_,_,hq=>exact hq
 | 2,_,_,_,hks,_,_=>exact absurd (hpr 3 (List.Mem.tail _ (List.Mem.head _))) (by rw [hks 3 (List.Mem.head _)]; decide)
 | 3,_,_,_,_,_,⟨a5,c5,hv,q_0⟩=>exact ⟨a5,c5,hv,⟨ownsRow_box q_0.row hg (by decide) ht,q_0.byte⟩⟩
 | 4,_,_,_,_,_,⟨a5,c5,hv,q_0⟩=>exact ⟨a5,c5,hv,⟨ownsRow_box q_0.row hg (by decide) ht,q_0.byte⟩⟩
 | 5,_,_,_,_,_,⟨a5,c5,hv,q_0⟩=>exact ⟨a5,c5,hv,⟨ownsRow_box q_0.row hg (by decide) ht,q_0.byte⟩⟩
 | 6,_,_,_,_,_,hq=>exact hq
 | 7,_,_,_,_,_,hq=>exact hq
 | 8,_,_,_,_,hkill,_=>exact absurd (List.Mem.head _) hkill
 | 9,_,_,_,_,_,⟨a5,c5,hv,q_0⟩=>exact ⟨a5,c5,hv,⟨ownsRow_box q_0.row hg (by decide) ht,q_0.byte⟩⟩
 | 10,_,hne,_,_,_,_=>exact absurd rfl hne
 | 11,_,_,_,_,_,hq=>exact hq
 | 12,_,_,_,_,_,q_0=>exact box_box q_0 hg (by decide) ht
 | 13,_,_,_,_,_,⟨q_0,q_1⟩=>exact ⟨(ht.block _ (Array.getElem?_eq_some_iff.1 q_0).1 (by omega)).trans q_0,q_1⟩
 | k+14,hk,_,_,_,_,_=>omega
def mss8 (p1:Option Addr)(n1 u1:Nat)(p2:Option Addr)(n2 u2:Nat)(gs:Nat)(x:CP)(a5:Option Addr)(c5 gx:Nat)(sg:List Int)(t1 t2 t3 t4:Int)(G B:Nat):RSpec where
 m:=5
 n:=10
 slots:=[34,35,100002,100003,6,100005,100006,100007,100008,100009]
 kills:=[[],[],[],[],[],[],[],[2],[3],[]]
 pres:=[[],[],[],[],[],[],[],[],[],[]]
 fact:=fun k v w=>match k with
  | 0=>v=.agg #[.slice p1 n1 u1,.int .i64 x.num,.int .i64 x.base,.int .i64 x.tm,.int .i64 x.next,.int .i64 x.scope,.bool x.ind,.slice p2 n2 u2,.slice a5 sg.length c5]
  | 1=>v=.agg #[.int .i64 t1,.int .u64 t2,.int .i64 t3,.int .i64 t4]
  | 2=>w.heap[(G+2)]? = some (.cells #[.slice p1 n1 u1,.int .i64 x.num,.int .i64 x.base,.int .i64 x.tm,.int .i64 x.next,.int .i64 x.scope,.bool x.ind,.slice p2 n2 u2,.slice a5 sg.length c5] 38 (0,0))
  | 3=>w.heap[(G+3)]? = some (.cells #[.int .i64 t1,.int .u64 t2,.int .i64 t3,.int .i64 t4] 39 (0,0))
  | 4=>v=.int .i64 0
  | 5=>w.heap[G]? = some (.cells #[.slice p1 n1 u1,.int .i64 x.num,.int .i64 x.base,.int .i64 x.tm,.int .i64 x.next,.int .i64 x.scope,.bool x.ind,.slice p2 n2 u2,.slice a5 sg.length c5] 38 (0,0))
  | 6=>w.heap[gx]? = some (.cells #[.int .i64 t1,.int .u64 t2,.int .i64 t3,.int .i64 t4] 39 (0,0))∧G+3<gx
  | 7=>w.heap[(G+2)]? = some (.cells #[.slice none 0 0,.int .i64 0,.int .i64 0,.int .i64 0,.int .i64 0,.int .i64 0,.bool false,.slice none 0 0,.slice none 0 0] 38 (0,0))
  | 8=>w.heap[(G+3)]? = some (.cells #[.int .i64 0,.int .u64 0,.int .i64 0,.int .i64 0] 39 (0,0))
  | _=>AgS w p1 n1 u1 p2 n2 u2 a5 sg.length c5 (withS x sg)
theorem mss8_stb (p1:Option Addr)(n1 u1:Nat)(p2:Option Addr)(n2 u2:Nat)(gs:Nat)(x:CP)(a5:Option Addr)(c5 gx:Nat)(sg:List Int)(t1 t2 t3 t4:Int)(G B:Nat)(k:Nat)(hk:k<10):StB ((mss8 p1 n1 u1 p2 n2 u2 gs x a5 c5 gx sg t1 t2 t3 t4 G (B)).fact k):=by
 match k,hk with
 | 0,_=>exact fun _ _ _ h _=>h
 | 1,_=>exact fun _ _ _ h _=>h
 | 2,_=>exact fun _ _ _ q_0 hb=>below_kept q_0 hb
 | 3,_=>exact fun _ _ _ q_0 hb=>below_kept q_0 hb
 | 4,_=>exact fun _ _ _ h _=>h
 | 5,_=>exact fun _ _ _ q_0 hb=>below_kept q_0 hb
 | 6,_=>exact fun _ _ _ ⟨q_0,q_1⟩ hb=>⟨below_kept q_0 hb,q_1⟩
 | 7,_=>exact fun _ _ _ q_0 hb=>below_kept q_0 hb
 | 8,_=>exact fun _ _ _ q_0 hb=>below_kept q_0 hb
 | 9,_=>exact fun _ _ _ q_0 hb=>q_0.kept hb
 | k+10,hk=>omega
theorem mss8_st2 (p1:Option Addr)(n1 u1:Nat)(p2:Option Addr)(n2 u2:Nat)(gs:Nat)(x:CP)(a5:Option Addr)(c5 gx:Nat)(sg:List Int)(t1 t2 t3 t4:Int)(G B:Nat){W W2:World}{cs:Array Value}{fr:Nat × Nat}(hg:W.heap[(G+2)]? = some (.cells cs 38 fr))(ht:Touch ((G+2)) ((G+2)+1) W W2)(k:Nat)(hk:k<10)(hne:k≠2)(hkill:2∉(mss8 p1 n1 u1 p2 n2 u2 gs x a5 c5 gx sg t1 t2 t3 t4 G (B)).kill k)(v:Value)(hfact:(mss8 p1 n1 u1 p2 n2 u2 gs x a5 c5 gx sg t1 t2 t3 t4 G (B)).fact k v W):(mss8 p1 n1 u1 p2 n2 u2 gs x a5 c5 gx sg t1 t2 t3 t4 G (B)).fact k v W2:=by
 match k,hk,hne,hkill,hfact with
 | 0,_,_,_,hq=>exact hq
 | 1,_,_,_,hq=>exact hq
 | 2,_,hne,_,_=>exact absurd rfl hne
 | 3,_,_,_,q_0=>exact box_box q_0 hg (by decide) ht
 | 4,_,_,_,hq=>exact hq
 | 5,_,_,_,q_0=>exact (ht.block _ (Array.getElem?_eq_some_iff.1 q_0).1 (by omega)).trans q_0
 | 6,_,_,_,⟨q_0,q_1⟩=>exact ⟨box_box q_0 hg (by decide) ht,q_1⟩
 | 7,_,_,hkill,_=>exact absurd (List.Mem.head _) hkill
 | 8,_,_,_,q_0=>exact box_box q_0 hg (by decide) ht
 | 9,_,_,_,q_0=>exact q_0.touched hg (by decide) (by decide) ht
 | k+10,hk,_,_,_=>omega
theorem mss8_st3 (p1:Option Addr)(n1 u1:Nat)(p2:Option Addr)(n2 u2:Nat)(gs:Nat)(x:CP)(a5:Option Addr)(c5 gx:Nat)(sg:List Int)(t1 t2 t3 t4:Int)(G B:Nat){W W2:World}{cs:Array Value}{fr:Nat × Nat}(hg:W.heap[(G+3)]? = some (.cells cs 39 fr))(ht:Touch ((G+3)) ((G+3)+1) W W2)(k:Nat)(hk:k<10)(hne:k≠3)(hkill:3∉(mss8 p1 n1 u1 p2 n2 u2 gs x a5 c5 gx sg t1 t2 t3 t4 G (B)).kill k)(v:Value)(hfact:(mss8 p1 n1 u1 p2 n2 u2 gs x a5 c5 gx sg t1 t2 t3 t4 G (B)).fact k v W):(mss8 p1 n1 u1 p2 n2 u2 gs x a5 c5 gx sg t1 t2 t3 t4 G (B)).fact k v W2:=by
 match k,hk,hne,hkill,hfact with
 | 0,_,_,_,hq=>exact hq
 | 1,_,_,_,hq=>exact hq
 | 2,_,_,_,q_0=>exact box_box q_0 hg (by decide) ht
 | 3,_,hne,_,_=>exact absurd rfl hne
 | 4,_,_,_,hq=>exact hq
 | 5,_,_,_,q_0=>exact box_box q_0 hg (by decide) ht
 | 6,_,_,_,⟨q_0,q_1⟩=>exact ⟨(ht.block _ (Array.getElem?_eq_some_iff.1 q_0).1 (by omega)).trans q_0,q_1⟩
 | 7,_,_,_,q_0=>exact box_box q_0 hg (by decide) ht
 | 8,_,_,hkill,_=>exact absurd (List.Mem.head _) hkill
 | 9,_,_,_,q_0=>exact q_0.touched hg (by decide) (by decide) ht
 | k+10,hk,_,_,_=>omega
theorem specSignCrl_any (HSPEC:HTree)(a1:Option Addr)(n1 c1:Nat)(a2:Option Addr)(n2 c2:Nat)(a3:Option Addr)(n3 c3:Nat)(x:CP)(sc kk hh nx:Int)(w:World)(h:Crs w a1 n1 a2 n2 a3 n3 x)(hz:CpOk n1 n2 n3 x)(hu:U64 kk)(hn1:a1=none→c1=0)(hn3:a3=none→c3=0)
  (hc:∀ k,k<n2→∀ b off an nn cn,a2=some ⟨b,off,none⟩→w.cell? ⟨b,off+k * 4,none⟩=some (.slice an nn cn)→(an=none→cn=0)∧nn≤1048576) :
  Calls Tryz.prog 5 #[crv a1 n1 c1 a2 n2 c2 a3 n3 c3 x,.agg #[.int .i64 sc,.int .u64 kk,.int .i64 hh,.int .i64 nx]] w fun e w'=>SgS x n1 n2 sc kk hh nx w e w':=by
 obtain ⟨w1,hw1⟩:∃ w1,w1=(((w.alloc (.cells #[.slice a1 n1 c1,.int .i64 x.num,.int .i64 x.base,.int .i64 x.tm,.int .i64 x.next,.int .i64 x.scope,.bool x.ind,.slice a2 n2 c2,.slice a3 n3 c3] 38)).alloc (.cells #[.int .i64 sc,.int .u64 kk,.int .i64 hh,.int .i64 nx] 39)).alloc (.cells #[.slice none 0 0,.int .i64 0,.int .i64 0,.int .i64 0,.int .i64 0,.int .i64 0,.bool false,.slice none 0 0,.slice none 0 0] 38)).alloc (.cells #[.int .i64 0,.int .u64 0,.int .i64 0,.int .i64 0] 39):=⟨_,rfl⟩
 have hbb:Below w.heap.size w w1:=by rw [hw1]; exact four_belowS w _ _ _ _
 have hB1:=four_boxes w (.cells #[.slice a1 n1 c1,.int .i64 x.num,.int .i64 x.base,.int .i64 x.tm,.int .i64 x.next,.int .i64 x.scope,.bool x.ind,.slice a2 n2 c2,.slice a3 n3 c3] 38) (.cells #[.int .i64 sc,.int .u64 kk,.int .i64 hh,.int .i64 nx] 39) (.cells #[.slice none 0 0,.int .i64 0,.int .i64 0,.int .i64 0,.int .i64 0,.int .i64 0,.bool false,.slice none 0 0,.slice none 0 0] 38) (.cells #[.int .i64 0,.int .u64 0,.int .i64 0,.int .i64 0] 39)
 rw [← hw1] at hB1
 have hs1:w1.heap.size=w.heap.size+4:=by rw [hw1]; simp
 have HA:Hid (Crs w a1 n1 a2 n2 a3 n3 x∧CpOk n1 n2 n3 x):=⟨h,hz⟩
 have HZN:Hid (CpOk n1 n2 0 (noSig x)):=⟨hz.1,hz.2.1,hz.2.2.1,hz.2.2.2.1,by omega⟩
 have HLN:Hid (x.parts.length=n1∧x.ents.length=n2):=⟨h.nm.len,h.en.len⟩
 have HU:Hid (U64 kk):=hu
 have HN1:Hid (a1=none→c1=0):=hn1
 have HCC:Hid (∀ W,Below w.heap.size w W→∀ k,k<n2→∀ b off an nn cn,a2=some ⟨b,off,none⟩→W.cell? ⟨b,off+k * 4,none⟩=some (.slice an nn cn)→(an=none→cn=0)∧nn≤1048576):=fun W hb2 k hk b off an nn cn e hq=>by
  refine hc k hk b off an nn cn e ?_
  obtain ⟨b',off',_,_,_,e',hlt,_⟩:=h.en.get k hk
  rw [e] at e'
  simp only [Option.some.injEq,Addr.mk.injEq] at e'
  obtain ⟨rfl,_,_⟩:=e'
  rw [← hb2.cell (p:=⟨b,off+k * 4,none⟩) hlt]
  exact hq
 have HSP:Hid HTree:=HSPEC
 have CPY:=l10Copy_any a1 n1 c1 a2 n2 c2 a3 n3 c3 x w1 (h.kept hbb) hz hn1 hn3 (HCC.out w1 hbb)
 unfold crv at CPY
 have HCP:Hid (_):=CPY
 have HS1:Hid (w1.heap.size=w.heap.size+4):=hs1
 have HB1:Hid (_∧_∧_∧_):=hB1
 have HBW1:Hid (Below w.heap.size w w1):=hbb
 have HW1:Hid (_=_):=hw1
 clear hw1 hB1 hbb hs1 h hz hu hn1 hn3 hc CPY
 unfold crv
 go_enter Tryz.func5,Tryz.ntmps5
 go_upto_region 1 with fail
 rw [← HW1.out]
 clear HW1
 go_wp2_with (refine wpList_load_row rfl 38 _ rfl (w.heap.size) rfl 38 #[.slice a1 n1 c1,.int .i64 x.num,.int .i64 x.base,.int .i64 x.tm,.int .i64 x.next,.int .i64 x.scope,.bool x.ind,.slice a2 n2 c2,.slice a3 n3 c3] (0,0) _ HB1.out.1 Tryz.underlying38 rfl (by kernel_rfl) ?_)
 refine Calls.mono HCP.out ?_
 rintro e v2 ⟨p1,u1,p2,u2,p3,u3,rfl,hct,hnm,⟨slq,heq,hel⟩,hb2⟩
 have hx2:=(hb2.block w.heap.size (by rw [HS1.out]; omega)).trans HB1.out.1
 obtain ⟨w2,hw2⟩:∃ w2,w2=v2.setRow w.heap.size #[.slice p1 n1 u1,.int .i64 x.num,.int .i64 x.base,.int .i64 x.tm,.int .i64 x.next,.int .i64 x.scope,.bool x.ind,.slice p2 n2 u2,.slice p3 n3 u3]:=⟨_,rfl⟩
 have t2:=setRow_touch v2 w.heap.size #[.slice p1 n1 u1,.int .i64 x.num,.int .i64 x.base,.int .i64 x.tm,.int .i64 x.next,.int .i64 x.scope,.bool x.ind,.slice p2 n2 u2,.slice p3 n3 u3]
 rw [← hw2] at t2
 have hx2':w2.heap[w.heap.size]? = some (.cells #[.slice p1 n1 u1,.int .i64 x.num,.int .i64 x.base,.int .i64 x.tm,.int .i64 x.next,.int .i64 x.scope,.bool x.ind,.slice p2 n2 u2,.slice p3 n3 u3] 38 (0,0)):=by rw [hw2]; exact setRow_heap v2 w.heap.size _ _ _ (0,0) hx2
 have hs2:w.heap.size+4≤v2.heap.size:=by have:=hb2.size; have:=HS1.out; omega
 have HX2:Hid (_=_):=hx2
 have HW2:Hid (_=_):=hw2
 have hal:Below w2.heap.size w2 (w2.alloc (.cells #[] 5)):=(Below.refl _ _).alloc (Nat.le_refl _) _
 have hs22:w.heap.size+4≤w2.heap.size:=Nat.le_trans hs2 t2.size
 have hx2a:(w2.alloc (.cells #[] 5)).heap[w.heap.size]? = some (.cells #[.slice p1 n1 u1,.int .i64 x.num,.int .i64 x.base,.int .i64 x.tm,.int .i64 x.next,.int .i64 x.scope,.bool x.ind,.slice p2 n2 u2,.slice p3 n3 u3] 38 (0,0)):=(hal.block _ (by omega)).trans hx2'
 have y8:w2.cell? ⟨w.heap.size,8,none⟩=some (.slice p3 n3 u3):=(cell_of_row _ _ 8 _ _ (0,0) hx2').trans rfl
 have g8:w2.frozen? ⟨w.heap.size,8,none⟩=false:=frozen_of_row w2 _ 8 _ _ hx2'
 have x8:(w2.alloc (.cells #[] 5)).cell? ⟨w.heap.size,8,none⟩=some (.slice p3 n3 u3):=qk hx2a rfl
 have f8:(w2.alloc (.cells #[] 5)).frozen? ⟨w.heap.size,8,none⟩=false:=frozen_of_row _ _ 8 _ _ hx2a
 obtain ⟨w3,hw3⟩:∃ w3,w3=(w2.alloc (.cells #[] 5)).setCell ⟨w.heap.size,8,none⟩ (.slice (some ⟨w2.heap.size,0,none⟩) 0 0):=⟨_,rfl⟩
 obtain ⟨gs,hgs⟩:∃ gs,gs=w2.heap.size:=⟨_,rfl⟩
 have t3:Touch w.heap.size (w.heap.size+1) (w2.alloc (.cells #[] 5)) w3:=by rw [hw3]; exact touch_setC _ _ _ _ (Nat.le_refl _) (Nat.lt_succ_self _)
 have tt23:Touch w.heap.size (w.heap.size+1) v2 w3:=t2.trans ((Touch.of_below hal).trans t3)
 have hx3:w3.heap[w.heap.size]? = some (.cells #[.slice p1 n1 u1,.int .i64 x.num,.int .i64 x.base,.int .i64 x.tm,.int .i64 x.next,.int .i64 x.scope,.bool x.ind,.slice p2 n2 u2,.slice (some ⟨gs,0,none⟩) 0 0] 38 (0,0)):=by rw [hw3,hgs]; exact (heap_setCell_same _ w.heap.size 8 _ _ _ hx2a).trans rfl
 have ho:∀ j,w.heap.size+1≤j→j<w.heap.size+4→w3.heap[j]? = w1.heap[j]?:=fun j h1 h2=>(tt23.block j (by omega) (.inr (by omega))).trans (hb2.block j (by rw [HS1.out]; omega))
 have HSK:Hid (w.heap.size+4≤w3.heap.size∧w.heap.size+4≤w3.heap.size):=by have:=tt23.size; constructor <;> omega
 have HK:Hid (∀ W,Below w3.heap.size w3 W→W.heap[w.heap.size]? = some (.cells #[.slice p1 n1 u1,.int .i64 x.num,.int .i64 x.base,.int .i64 x.tm,.int .i64 x.next,.int .i64 x.scope,.bool x.ind,.slice p2 n2 u2,.slice (some ⟨gs,0,none⟩) 0 0] 38 (0,0))∧W.heap[w.heap.size+1]? = some (.cells #[.int .i64 sc,.int .u64 kk,.int .i64 hh,.int .i64 nx] 39 (0,0))∧W.heap[w.heap.size+2]? = some (.cells #[.slice none 0 0,.int .i64 0,.int .i64 0,.int .i64 0,.int .i64 0,.int .i64 0,.bool false,.slice none 0 0,.slice none 0 0] 38 (0,0))∧W.heap[w.heap.size+3]? = some (.cells #[.int .i64 0,.int .u64 0,.int .i64 0,.int .i64 0] 39 (0,0))):=fun W hb=>by
  have:=HSK.out
  exact ⟨(hb.block _ (by omega)).trans hx3,(hb.block _ (by omega)).trans ((ho _ (by omega) (by omega)).trans HB1.out.2.1),(hb.block _ (by omega)).trans ((ho _ (by omega) (by omega)).trans HB1.out.2.2.1),(hb.block _ (by omega)).trans ((ho _ (by omega) (by omega)).trans HB1.out.2.2.2)⟩
 have hb12:Below w.heap.size w v2:=HBW1.out.trans (hb2.mono HBW1.out.size)
 have HBW:Hid (Below w.heap.size w w3):=hb12.trans (tt23.below (Nat.le_refl _) hb12.size)
 have HCT3:Hid (CrsT w1.heap.size w3 p1 n1 p2 n2 p3 n3 x):=hct.on tt23 (by rw [HS1.out]; omega) (Nat.le_refl _)
 have HEQ:Hid (w3.ownsRow w1.heap.size 132 2 (.slice p1 n1 u1) n1 (flPt x.parts)∧∃ sl,EachQ w1.heap.size w3 p2 n2 u2 x.ents sl∧∀ j,j<n2→(sl j).2.1=(x.ents.getD j default).parts.length):=⟨owns_touchC hnm tt23 (by rw [HS1.out]; omega),slq,heq.touchC tt23 (by rw [HS1.out]; omega),hel⟩
 have HCR:Hid (∀ W,Below w3.heap.size w3 W→Crs W p1 n1 p2 n2 (some ⟨gs,0,none⟩) 0 (noSig x)):=fun W hW=>by
  have q:=HCT3.out.now.kept hW
  exact ⟨q.nm,q.en,⟨rfl,fun k hk=>absurd hk (Nat.not_lt_zero _),fun k=>by simp [noSig]⟩,by omega⟩
 have HW3:Hid (_=_):=hw3
 have HGS:Hid (w2.heap.size=gs):=hgs.symm
 clear hw2 hw3 hct hnm heq hel hb2 hx2 t2 hx2' hs2 hal hs22 hx2a t3 tt23 hx3 ho hb12 hgs HCP HB1
 go_upto_region 2 with (refine wpList_store_rowTo rfl 38 _ _ rfl rfl (w.heap.size) #[.slice p1 n1 u1,.int .i64 x.num,.int .i64 x.base,.int .i64 x.tm,.int .i64 x.next,.int .i64 x.scope,.bool x.ind,.slice p2 n2 u2,.slice p3 n3 u3] rfl rfl 38 #[.slice a1 n1 c1,.int .i64 x.num,.int .i64 x.base,.int .i64 x.tm,.int .i64 x.next,.int .i64 x.scope,.bool x.ind,.slice a2 n2 c2,.slice a3 n3 c3] HX2.out (by kernel_rfl) rfl (by simp [Value.oneCell']) ?_)
 rw [← HW2.out]
 clear HW2 HX2
 go_upto_region 3 with fail
 rw [← HW3.out,HGS.out]
 clear HW3 HGS x8 f8 y8 g8
 have HCK:Hid (∀ W,Below w3.heap.size w3 W→Calls Tryz.prog 17 #[.agg #[.slice p1 n1 u1,.int .i64 x.num,.int .i64 x.base,.int .i64 x.tm,.int .i64 x.next,.int .i64 x.scope,.bool x.ind,.slice p2 n2 u2,.slice (some ⟨gs,0,none⟩) 0 0]] W (Says (crlP (noSig x)) W)):=fun W hW=>specCrlOk_any p1 n1 u1 p2 n2 u2 (some ⟨gs,0,none⟩) 0 0 (noSig x) W (HCR.out W hW) HZN.out
 go_wp2_with (refine wpList_load_row rfl 38 _ rfl (w.heap.size) rfl 38 #[.slice p1 n1 u1,.int .i64 x.num,.int .i64 x.base,.int .i64 x.tm,.int .i64 x.next,.int .i64 x.scope,.bool x.ind,.slice p2 n2 u2,.slice (some ⟨gs,0,none⟩) 0 0] (0,0) _ (HK.out _ (Below.refl _ _)).1 Tryz.underlying38 rfl (by kernel_rfl) ?_)
 refine Calls.mono (HCK.out w3 (Below.refl _ _)) ?_
 rintro e w4 ⟨e1,rfl,hp1,hb4⟩
 have HB4:Hid (Below w3.heap.size w3 w4):=hb4
 clear hb4 HCK
 cases e1 with
 | false =>
  have HNO:Hid (¬ crlP (noSig x)):=fun q=>absurd (hp1.out.2 q) (by decide)
  clear hp1
  have hr2:=(HK.out _ HB4.out).2.2.1
  have hr3:=(HK.out _ HB4.out).2.2.2
  have tt:=setRow_touch w4 (w.heap.size+2) #[.slice none 0 0,.int .i64 0,.int .i64 0,.int .i64 0,.int .i64 0,.int .i64 0,.bool false,.slice none 0 0,.slice none 0 0]
  have hr2':=setRow_heap w4 (w.heap.size+2) _ #[.slice none 0 0,.int .i64 0,.int .i64 0,.int .i64 0,.int .i64 0,.int .i64 0,.bool false,.slice none 0 0,.slice none 0 0] 38 (0,0) hr2
  have hr3':(w4.setRow (w.heap.size+2) #[.slice none 0 0,.int .i64 0,.int .i64 0,.int .i64 0,.int .i64 0,.int .i64 0,.bool false,.slice none 0 0,.slice none 0 0]).heap[w.heap.size+3]? = some (.cells #[.int .i64 0,.int .u64 0,.int .i64 0,.int .i64 0] 39 (0,0)):=(tt.block _ (Array.getElem?_eq_some_iff.1 hr3).1 (.inr (by omega))).trans hr3
  have tt2:=setRow_touch (w4.setRow (w.heap.size+2) #[.slice none 0 0,.int .i64 0,.int .i64 0,.int .i64 0,.int .i64 0,.int .i64 0,.bool false,.slice none 0 0,.slice none 0 0]) (w.heap.size+3) #[.int .i64 0,.int .u64 0,.int .i64 0,.int .i64 0]
  have q6:=setRow_heap (w4.setRow (w.heap.size+2) #[.slice none 0 0,.int .i64 0,.int .i64 0,.int .i64 0,.int .i64 0,.int .i64 0,.bool false,.slice none 0 0,.slice none 0 0]) (w.heap.size+3) _ #[.int .i64 0,.int .u64 0,.int .i64 0,.int .i64 0] 39 (0,0) hr3'
  have q5:=(tt2.block (w.heap.size+2) (Array.getElem?_eq_some_iff.1 hr2').1 (.inl (by omega))).trans hr2'
  have B3:=HBW.out.trans ((HB4.out).mono HBW.out.size)
  have B4:=B3.trans (tt.below (by omega) B3.size)
  have B5:=B4.trans (tt2.below (by omega) B4.size)
  have HZZ:Hid (_∧_∧_∧_∧_):=⟨hr2,hr3',q5,q6,B5⟩
  clear hr2 hr3 tt hr2' hr3' tt2 q6 q5 B3 B4 B5
  go_wp2_with (first | (refine wpList_store_rowTo rfl 38 _ _ rfl rfl (w.heap.size+2) #[.slice none 0 0,.int .i64 0,.int .i64 0,.int .i64 0,.int .i64 0,.int .i64 0,.bool false,.slice none 0 0,.slice none 0 0] rfl rfl 38 #[.slice none 0 0,.int .i64 0,.int .i64 0,.int .i64 0,.int .i64 0,.int .i64 0,.bool false,.slice none 0 0,.slice none 0 0] HZZ.out.1 (by kernel_rfl) rfl (by simp [Value.oneCell']) ?_) | (refine wpList_store_rowTo rfl 39 _ _ rfl rfl (w.heap.size+3) #[.int .i64 0,.int .u64 0,.int .i64 0,.int .i64 0] rfl rfl 39 #[.int .i64 0,.int .u64 0,.int .i64 0,.int .i64 0] HZZ.out.2.1 (by kernel_rfl) rfl (by simp [Value.oneCell']) ?_))
  try simp only [Exit.inBlock,Exit.then]
  exact bodyPost_ret (results_crl3 (by rfl) _ (w.heap.size+2) (w.heap.size+3) rfl rfl _ rfl _ _ _ rfl rfl HZZ.out.2.2.1 HZZ.out.2.2.2.1) rfl (fun z m n r t cd hr=>by
   obtain ⟨rfl,rfl,rfl,rfl,rfl,rfl⟩:=sgn_bad HNO.out hr
   exact ⟨none,0,none,0,none,0,rfl,agI_zero.s (B:=0),HZZ.out.2.2.2.2⟩)
 | true =>
  have HOK:Hid (crlP (noSig x)):=hp1.out.1 rfl
  clear hp1
  have hen:=crBody_enc HOK.out
  obtain ⟨l,hl⟩:∃ l,l=crBody (noSig x):=⟨_,rfl⟩
  rw [← hl] at hen
  obtain ⟨sg,hsg⟩:∃ sg,sg=(sgA x sc kk hh nx).1:=⟨_,rfl⟩
  obtain ⟨cd,hcd⟩:∃ cd,cd=(sgA x sc kk hh nx).2.2:=⟨_,rfl⟩
  obtain ⟨t1,t2,t3,t4,ht⟩:∃ t1 t2 t3 t4,(sgA x sc kk hh nx).2.1=(t1,t2,t3,t4):=⟨_,_,_,_,rfl⟩
  have HSL:Hid (sg.length≤1000):=by show _≤_; rw [hsg]; exact saV_len _ _ _ _ _
  have HBD:Hid (∀ W,Below w4.heap.size w4 W→Calls Tryz.prog 19 #[.agg #[.slice p1 n1 u1,.int .i64 x.num,.int .i64 x.base,.int .i64 x.tm,.int .i64 x.next,.int .i64 x.scope,.bool x.ind,.slice p2 n2 u2,.slice (some ⟨gs,0,none⟩) 0 0]] W fun e w'=>∃ a' c',e=.returned (.slice a' l.length c')∧Own W.heap.size w' a' l.length c' l∧Below W.heap.size W w'):=fun W hW=>l10Body_any p1 n1 u1 p2 n2 u2 (some ⟨gs,0,none⟩) 0 0 (noSig x) l W (HCR.out W (HB4.out.trans (hW.mono HB4.out.size))) HOK.out hen.1
  have HSA:Hid (∀ (W:World) (a4:Option Addr) (c4:Nat),Below w4.heap.size w4 W→Own w4.heap.size W a4 l.length c4 l→Calls Tryz.prog 18 #[.agg #[.int .i64 sc,.int .u64 kk,.int .i64 hh,.int .i64 nx],.slice a4 l.length c4] W fun e w'=>∃ a5 c5,e=.returned (.tuple #[.slice a5 sg.length c5,.agg #[.int .i64 t1,.int .u64 t2,.int .i64 t3,.int .i64 t4],.int .i64 cd])∧Own W.heap.size w' a5 sg.length c5 sg∧Below W.heap.size W w'):=fun W a4 c4 hW ho=>by
   have q:=specSignAny_walk HSP.out sc kk hh nx a4 l.length c4 l W HU.out ho.toRow (by omega) ho.nil
   have e1:saV sc kk hh nx l=sgA x sc kk hh nx:=by rw [hl]; rfl
   rw [e1,← hsg,ht,← hcd] at q
   exact q
  have HSV:Hid (sg=(sgA x sc kk hh nx).1∧(sgA x sc kk hh nx).2.1=(t1,t2,t3,t4)∧cd=(sgA x sc kk hh nx).2.2):=⟨hsg,ht,hcd⟩
  have HBB:w4.heap.size≤w4.heap.size:=Nat.le_refl _
  clear hl hen hsg hcd ht
  go_upto_region 5 with fail
  have stb:=mss4_stb p1 n1 u1 p2 n2 u2 gs x sc kk hh nx l sg t1 t2 t3 t4 cd w.heap.size (w4.heap.size)
  refine wp_region_ri (mss4 p1 n1 u1 p2 n2 u2 gs x sc kk hh nx l sg t1 t2 t3 t4 cd w.heap.size (w4.heap.size)) [7,8,9,19,20,21,22,23,24,25,26] (w4.heap.size) (fun a0=>a0.tmps.size=36∧aT a0 2=.pointer (some ⟨w.heap.size,0,none⟩)∧aT a0 3=.pointer (some ⟨(w.heap.size+1),0,none⟩)) (by kernel_rfl) rfl (by kernel_rfl) rfl ⟨rfl,rfl,rfl⟩ stb ?_ ?_ ?_
  ·exact vt2 (m:=12) ((HK.out _ HB4.out).1) (⟨(HK.out _ HB4.out).2.1,(Array.getElem?_eq_some_iff.1 (HK.out _ HB4.out).2.1).1⟩)
  ·rintro a0 ⟨hz,g2,g3⟩
   refine StepsRI.cons ?_ (StepsRI.cons ?_ (StepsRI.cons ?_ (StepsRI.cons ?_ (StepsRI.cons ?_ (StepsRI.cons ?_ (StepsRI.cons ?_ (StepsRI.cons ?_ (StepsRI.cons ?_ (StepsRI.cons ?_ (StepsRI.cons ?_ (StepsRI.cons ?_ (StepsRI.nil))))))))))))
   all_goals intro lQ b W hI hUN hED KQ hKQ
   ·have hg:=(hI.vo 13).1
    refine wp_load_row 39 _ rfl ((w.heap.size+1)) ((hI.fr.same 3 (by decide)).trans g3) 39 _ (0,0) _ hg Tryz.underlying39 rfl (by kernel_rfl) ?_
    exact hKQ.out _ _ (hI.pu 0 20 hz hUN HBB stb (Below.refl _ _) rfl)
   ·have hg:=(hI.vo 12)
    refine wp_load_row 38 _ rfl (w.heap.size) ((hI.fr.same 2 (by decide)).trans g2) 38 _ (0,0) _ hg Tryz.underlying38 rfl (by kernel_rfl) ?_
    exact hKQ.out _ _ (hI.pu 1 21 hz hUN HBB stb (Below.refl _ _) rfl)
   ·have f0:=hI.ge 1 hED
    replace f0:aT b 21=_:=f0
    refine opw_c1 19 21 Tryz.func19 f0 ?_
    refine (HBD.out W hI.bel).mono ?_
    rintro e W2 ⟨a4,c4,rfl,ho,hb⟩
    exact ⟨_,rfl,hKQ.out _ _ (hI.pu 2 22 hz hUN HBB stb hb ⟨a4,c4,rfl,ho.mono (Nat.le_trans HBB hI.bel.size)⟩)⟩
   ·have f0:=hI.ge 0 hED
    replace f0:aT b 20=_:=f0
    have f1:=hI.ge1 2 3 hED hUN
    obtain ⟨a4,c4,f1,o1_0⟩:=f1
    replace f1:aT b 22=_:=f1
    refine opw_c2 18 20 22 Tryz.func18 f0 f1 ?_
    refine (HSA.out W a4 c4 hI.bel o1_0).mono ?_
    rintro e W2 ⟨a5,c5,rfl,ho,hb⟩
    exact ⟨_,rfl,hKQ.out _ _ (hI.pu 3 23 hz hUN HBB stb hb ⟨a5,c5,rfl,ho.mono (Nat.le_trans HBB hI.bel.size)⟩)⟩
   ·have f:=hI.ge 3 hED
    exact opw_move 23 rfl (hKQ.out _ _ (hI.pu 4 19 hz hUN HBB stb (Below.refl _ _) f))
   ·have f:=hI.ge 4 hED
    obtain ⟨a5,c5,f,o_0⟩:=f
    exact opw_extract 19 0 rfl _ _ f rfl (hKQ.out _ _ (hI.pu 5 24 hz hUN HBB stb (Below.refl _ _) ⟨a5,c5,rfl,o_0⟩))
   ·have f:=hI.ge 4 hED
    obtain ⟨a5,c5,f,o_0⟩:=f
    exact opw_extract 19 1 rfl _ _ f rfl (hKQ.out _ _ (hI.pu 6 25 hz hUN HBB stb (Below.refl _ _) rfl))
   ·have f:=hI.ge 4 hED
    obtain ⟨a5,c5,f,o_0⟩:=f
    exact opw_extract 19 2 rfl _ _ f rfl (hKQ.out _ _ (hI.pu 7 26 hz hUN HBB stb (Below.refl _ _) rfl))
   ·refine opw_value (w':=W.alloc (.cells #[.int .i64 0,.int .u64 0,.int .i64 0,.int .i64 0] 39)) (.pointer (some ⟨W.heap.size,0,none⟩)) (by kernel_rfl) ?_
    exact hKQ.out _ _ (hI.pu 8 8 hz hUN HBB stb ((Below.refl _ _).alloc (Nat.le_refl _) _) ⟨W.heap.size,rfl,heap_alloc_new W _,Nat.le_trans HBB hI.bel.size⟩)
   ·have f:=hI.ge 5 hED
    exact opw_assign 24 rfl (hKQ.out _ _ (hI.pu 9 7 hz hUN HBB stb (Below.refl _ _) f))
   ·obtain ⟨g,fb,hgb,hge⟩:=hI.ge1 8 10 hED hUN
    have f:=hI.ge 6 hED
    refine wp_store_row 39 _ _ rfl g _ fb f 39 _ hgb (by kernel_rfl) rfl (by simp [Value.oneCell']) ?_
    have ht:=setRow_touch W g #[.int .i64 t1,.int .u64 t2,.int .i64 t3,.int .i64 t4]
    exact hKQ.out _ _ (hI.storel 10 (fun j hj=>by
      rcases List.mem_cons.1 hj with rfl | hj
      ·exact edge hED 8 (by kernel_rfl)
      rcases List.mem_singleton.1 hj with rfl
      exact edge hED 3 (by kernel_rfl)) (hI.bel.trans (ht.below hge (Nat.le_trans HBB hI.bel.size))) (mss4_st10 p1 n1 u1 p2 n2 u2 gs x sc kk hh nx l sg t1 t2 t3 t4 cd w.heap.size (w4.heap.size) hgb ht hge hI.cl hUN (fun j hj=>by
      rcases List.mem_cons.1 hj with rfl | hj
      ·exact edge hED 8 (by kernel_rfl)
      rcases List.mem_singleton.1 hj with rfl
      exact edge hED 3 (by kernel_rfl))) ⟨g,fb,(setRow_heap W g _ _ _ _ hgb),hge⟩)
   ·have f:=hI.ge 7 hED
    exact opw_assign 26 rfl (hKQ.out _ _ (hI.pu 11 9 hz hUN HBB stb (Below.refl _ _) f))
  ·intro b W hf hb F
   clear stb
   obtain ⟨gx,e8,hbx,hgx⟩:=F 10 (od rfl) rfl
   obtain ⟨a5,c5,e7,ho5⟩:=F 9 (od rfl) rfl
   have e9:aT b 9=_:=F 11 (od rfl) rfl
   replace e8:aT b 8=_:=e8
   replace e7:aT b 7=_:=e7
   rw [hf.eq]
   simp only [puts,Act.put,List.setIfInBounds_toArray,List.set_cons_zero,List.set_cons_succ,e7,e8,e9]
   clear hf F
   clear e7 e8 e9
   generalize aT b=AT
   clear b
   obtain ⟨w5,hW⟩:∃ w5,w5=W:=⟨_,rfl⟩
   subst hW
   have HB5:Hid (Below w3.heap.size w3 w5):=HB4.out.trans (hb.mono HB4.out.size)
   have HO5:Hid (_):=ho5
   have HGX:Hid (w5.heap[gx]? = some (.cells #[.int .i64 t1,.int .u64 t2,.int .i64 t3,.int .i64 t4] 39 (0,0))∧w4.heap.size≤gx):=⟨hbx,hgx⟩
   clear hb ho5 hbx hgx HBD HSA
   by_cases hcd:cd=0
   ·have HC0:Hid ((sgA x sc kk hh nx).2.2=0):=by show _=_; rw [← HSV.out.2.2]; exact hcd
    have tcd:(cd != 0)=false:=by simp [hcd]
    clear hcd
    have hk5:=HK.out _ HB5.out
    have x8:w5.cell? ⟨w.heap.size,8,none⟩=some (.slice (some ⟨gs,0,none⟩) 0 0):=qk hk5.1 rfl
    have f8:w5.frozen? ⟨w.heap.size,8,none⟩=false:=frozen_of_row w5 _ 8 _ _ hk5.1
    obtain ⟨w6,hw6⟩:∃ w6,w6=w5.setCell ⟨w.heap.size,8,none⟩ (.slice a5 sg.length c5):=⟨_,rfl⟩
    have t6:Touch w.heap.size (w.heap.size+1) w5 w6:=by rw [hw6]; exact touch_setC _ _ _ _ (Nat.le_refl _) (Nat.lt_succ_self _)
    have hs5:=HB5.out.size
    have hs4:=HB4.out.size
    have HK6:Hid (w6.heap[w.heap.size]? = some (.cells #[.slice p1 n1 u1,.int .i64 x.num,.int .i64 x.base,.int .i64 x.tm,.int .i64 x.next,.int .i64 x.scope,.bool x.ind,.slice p2 n2 u2,.slice a5 sg.length c5] 38 (0,0))∧w6.heap[w.heap.size+1]? = some (.cells #[.int .i64 sc,.int .u64 kk,.int .i64 hh,.int .i64 nx] 39 (0,0))∧w6.heap[w.heap.size+2]? = some (.cells #[.slice none 0 0,.int .i64 0,.int .i64 0,.int .i64 0,.int .i64 0,.int .i64 0,.bool false,.slice none 0 0,.slice none 0 0] 38 (0,0))∧w6.heap[w.heap.size+3]? = some (.cells #[.int .i64 0,.int .u64 0,.int .i64 0,.int .i64 0] 39 (0,0))∧w6.heap[gx]? = some (.cells #[.int .i64 t1,.int .u64 t2,.int .i64 t3,.int .i64 t4] 39 (0,0))∧w.heap.size+3<gx) :=
     ⟨by rw [hw6]; exact (heap_setCell_same w5 w.heap.size 8 _ _ _ hk5.1).trans rfl,(t6.block _ (Array.getElem?_eq_some_iff.1 hk5.2.1).1 (.inr (by omega))).trans hk5.2.1,(t6.block _ (Array.getElem?_eq_some_iff.1 hk5.2.2.1).1 (.inr (by omega))).trans hk5.2.2.1,(t6.block _ (Array.getElem?_eq_some_iff.1 hk5.2.2.2).1 (.inr (by omega))).trans hk5.2.2.2,(t6.block _ (Array.getElem?_eq_some_iff.1 HGX.out.1).1 (.inr (by have:=HGX.out.2; have:=HSK.out; omega))).trans HGX.out.1,by have:=HGX.out.2; have:=HSK.out; omega⟩
    have HB6:Hid (Below w.heap.size w w6):=(HBW.out.trans (HB5.out.mono HBW.out.size)).trans (t6.below (Nat.le_refl _) (HBW.out.trans (HB5.out.mono HBW.out.size)).size)
    have HXT:Hid (AgS w6 p1 n1 u1 p2 n2 u2 a5 sg.length c5 (withS x sg)):=by
     obtain ⟨slq,hE,hEl⟩:=HEQ.out.2
     have hnm6:=owns_touchC (ownsRow_below HEQ.out.1 HB5.out) t6 (by have:=HS1.out; omega)
     have hen6:=((hE.below HB5.out).touchC t6 (by have:=HS1.out; omega)).monoC (B':=0) (Nat.zero_le _)
     exact ⟨0,slq,⟨fun _=>owns_monoC hnm6 (Nat.zero_le _),hen6.own,⟨owns_monoC (owns_touchC HO5.out.row t6 (by have:=HS1.out; have:=HSK.out; omega)) (Nat.zero_le _),HO5.out.byte⟩,HLN.out.1,HLN.out.2,hEl⟩⟩
    have HW6:Hid (_=_):=hw6
    clear hw6 t6 hk5 hs5 hs4 HO5 HGX
    go_upto_region 9 with fail
    rw [← HW6.out]
    clear HW6 x8 f8
    have HBB:w.heap.size≤w6.heap.size:=HB6.out.size
    have stb:=mss8_stb p1 n1 u1 p2 n2 u2 gs x a5 c5 gx sg t1 t2 t3 t4 w.heap.size (w.heap.size)
    refine wp_region_ri (mss8 p1 n1 u1 p2 n2 u2 gs x a5 c5 gx sg t1 t2 t3 t4 w.heap.size (w.heap.size)) [6,34,35] (w.heap.size) (fun a0=>a0.tmps.size=36∧aT a0 2=.pointer (some ⟨w.heap.size,0,none⟩)∧aT a0 4=.pointer (some ⟨(w.heap.size+2),0,none⟩)∧aT a0 5=.pointer (some ⟨(w.heap.size+3),0,none⟩)∧aT a0 8=.pointer (some ⟨gx,0,none⟩)) (by kernel_rfl) rfl (by kernel_rfl) rfl ⟨rfl,rfl,rfl,rfl,rfl⟩ stb ?_ ?_ ?_
    ·exact vt5 (m:=5) (HK6.out.1) (⟨HK6.out.2.2.2.2.1,HK6.out.2.2.2.2.2⟩) (HK6.out.2.2.1) (HK6.out.2.2.2.1) (HXT.out)
    ·rintro a0 ⟨hz,g2,g4,g5,g8⟩
     refine StepsRI.cons ?_ (StepsRI.cons ?_ (StepsRI.cons ?_ (StepsRI.cons ?_ (StepsRI.cons ?_ (StepsRI.nil)))))
     all_goals intro lQ b W hI hUN hED KQ hKQ
     ·have hg:=(hI.vo 5)
      refine wp_load_row 38 _ rfl (w.heap.size) ((hI.fr.same 2 (by decide)).trans g2) 38 _ (0,0) _ hg Tryz.underlying38 rfl (by kernel_rfl) ?_
      exact hKQ.out _ _ (hI.pu 0 34 hz hUN HBB stb (Below.refl _ _) rfl)
     ·have hg:=(hI.vo 6).1
      refine wp_load_row 39 _ rfl (gx) ((hI.fr.same 8 (by decide)).trans g8) 39 _ (0,0) _ hg Tryz.underlying39 rfl (by kernel_rfl) ?_
      exact hKQ.out _ _ (hI.pu 1 35 hz hUN HBB stb (Below.refl _ _) rfl)
     ·have hgb:=(hI.vot1 7 2 (od rfl) (od rfl) hUN rfl)
      have fb:=((hI.fr.same 4 (by decide)).trans g4)
      have f:=hI.ge 0 hED
      refine wp_store_row 38 _ _ rfl ((w.heap.size+2)) _ fb f 38 _ hgb (by kernel_rfl) rfl (by simp [Value.oneCell']) ?_
      have ht:=setRow_touch W ((w.heap.size+2)) #[.slice p1 n1 u1,.int .i64 x.num,.int .i64 x.base,.int .i64 x.tm,.int .i64 x.next,.int .i64 x.scope,.bool x.ind,.slice p2 n2 u2,.slice a5 sg.length c5]
      exact hKQ.out _ _ (hI.store 2 (fun j hj=>by cases hj) (hI.bel.trans (ht.below (by first | exact HGE4 | omega) (Nat.le_trans HBB hI.bel.size))) (mss8_st2 p1 n1 u1 p2 n2 u2 gs x a5 c5 gx sg t1 t2 t3 t4 w.heap.size (w.heap.size) hgb ht) (setRow_heap W ((w.heap.size+2)) _ _ _ _ hgb))
     ·have hgb:=(hI.vot1 8 3 (od rfl) (od rfl) hUN rfl)
      have fb:=((hI.fr.same 5 (by decide)).trans g5)
      have f:=hI.ge 1 hED
      refine wp_store_row 39 _ _ rfl ((w.heap.size+3)) _ fb f 39 _ hgb (by kernel_rfl) rfl (by simp [Value.oneCell']) ?_
      have ht:=setRow_touch W ((w.heap.size+3)) #[.int .i64 t1,.int .u64 t2,.int .i64 t3,.int .i64 t4]
      exact hKQ.out _ _ (hI.store 3 (fun j hj=>by cases hj) (hI.bel.trans (ht.below (by first | exact HGE5 | omega) (Nat.le_trans HBB hI.bel.size))) (mss8_st3 p1 n1 u1 p2 n2 u2 gs x a5 c5 gx sg t1 t2 t3 t4 w.heap.size (w.heap.size) hgb ht) (setRow_heap W ((w.heap.size+3)) _ _ _ _ hgb))
     ·exact opw_const (.int .i64 0) rfl (hKQ.out _ _ (hI.pu 4 6 hz hUN HBB stb (Below.refl _ _) rfl))
    ·intro b W hf hb F
     clear stb
     have hx4:W.heap[w.heap.size+2]? = some (.cells #[.slice p1 n1 u1,.int .i64 x.num,.int .i64 x.base,.int .i64 x.tm,.int .i64 x.next,.int .i64 x.scope,.bool x.ind,.slice p2 n2 u2,.slice a5 sg.length c5] 38 (0,0)):=F 2 (od rfl) rfl
     have hag:AgS W p1 n1 u1 p2 n2 u2 a5 sg.length c5 (withS x sg):=F 9 (od rfl) rfl
     have hx5:W.heap[w.heap.size+3]? = some (.cells #[.int .i64 t1,.int .u64 t2,.int .i64 t3,.int .i64 t4] 39 (0,0)):=F 3 (od rfl) rfl
     have e6:aT b 6=_:=F 4 (od rfl) rfl
     rw [hf.eq]
     simp only [puts,Act.put,List.setIfInBounds_toArray,List.set_cons_zero,List.set_cons_succ,e6]
     clear hf F
     clear e6
     generalize aT b=AT
     clear b
     have HX:Hid (_∧_∧_∧_):=⟨hx4,hx5,hag,HB6.out.trans hb⟩
     clear hx4 hx5 hag hb
     go_wp2_with fail
     try simp only [Exit.inBlock,Exit.then]
     exact bodyPost_ret (results_crl3 (by rfl) _ (w.heap.size+2) (w.heap.size+3) rfl rfl _ rfl _ _ _ rfl rfl HX.out.1 HX.out.2.1) rfl (fun z m n r t cd hr=>by
      obtain ⟨rfl,rfl,rfl,rfl,rfl,rfl⟩:=sgn_made HOK.out HC0.out hr
      rw [← HSV.out.1,HSV.out.2.1]
      exact ⟨p1,u1,p2,u2,a5,c5,rfl,HX.out.2.2.1,HX.out.2.2.2⟩)
   ·have HC0:Hid ((sgA x sc kk hh nx).2.2≠0):=by show _≠_; rw [← HSV.out.2.2]; exact hcd
    have tcd:(cd != 0)=true:=by simp [hcd]
    have HCD:Hid (cd=(sgA x sc kk hh nx).2.2):=HSV.out.2.2
    have hcdv:cd≠0:=hcd
    have HCV:Hid (cd≠0):=hcdv
    clear hcd hcdv HO5 HGX
    have hr2:=(HK.out _ HB5.out).2.2.1
    have hr3:=(HK.out _ HB5.out).2.2.2
    have tt:=setRow_touch w5 (w.heap.size+2) #[.slice none 0 0,.int .i64 0,.int .i64 0,.int .i64 0,.int .i64 0,.int .i64 0,.bool false,.slice none 0 0,.slice none 0 0]
    have hr2':=setRow_heap w5 (w.heap.size+2) _ #[.slice none 0 0,.int .i64 0,.int .i64 0,.int .i64 0,.int .i64 0,.int .i64 0,.bool false,.slice none 0 0,.slice none 0 0] 38 (0,0) hr2
    have hr3':(w5.setRow (w.heap.size+2) #[.slice none 0 0,.int .i64 0,.int .i64 0,.int .i64 0,.int .i64 0,.int .i64 0,.bool false,.slice none 0 0,.slice none 0 0]).heap[w.heap.size+3]? = some (.cells #[.int .i64 0,.int .u64 0,.int .i64 0,.int .i64 0] 39 (0,0)):=(tt.block _ (Array.getElem?_eq_some_iff.1 hr3).1 (.inr (by omega))).trans hr3
    have tt2:=setRow_touch (w5.setRow (w.heap.size+2) #[.slice none 0 0,.int .i64 0,.int .i64 0,.int .i64 0,.int .i64 0,.int .i64 0,.bool false,.slice none 0 0,.slice none 0 0]) (w.heap.size+3) #[.int .i64 0,.int .u64 0,.int .i64 0,.int .i64 0]
    have q6:=setRow_heap (w5.setRow (w.heap.size+2) #[.slice none 0 0,.int .i64 0,.int .i64 0,.int .i64 0,.int .i64 0,.int .i64 0,.bool false,.slice none 0 0,.slice none 0 0]) (w.heap.size+3) _ #[.int .i64 0,.int .u64 0,.int .i64 0,.int .i64 0] 39 (0,0) hr3'
    have q5:=(tt2.block (w.heap.size+2) (Array.getElem?_eq_some_iff.1 hr2').1 (.inl (by omega))).trans hr2'
    have B3:=HBW.out.trans ((HB5.out).mono HBW.out.size)
    have B4:=B3.trans (tt.below (by omega) B3.size)
    have B5:=B4.trans (tt2.below (by omega) B4.size)
    have HZZ:Hid (_∧_∧_∧_∧_):=⟨hr2,hr3',q5,q6,B5⟩
    clear hr2 hr3 tt hr2' hr3' tt2 q6 q5 B3 B4 B5
    go_wp2_with (first | (refine wpList_store_rowTo rfl 38 _ _ rfl rfl (w.heap.size+2) #[.slice none 0 0,.int .i64 0,.int .i64 0,.int .i64 0,.int .i64 0,.int .i64 0,.bool false,.slice none 0 0,.slice none 0 0] rfl rfl 38 #[.slice none 0 0,.int .i64 0,.int .i64 0,.int .i64 0,.int .i64 0,.int .i64 0,.bool false,.slice none 0 0,.slice none 0 0] HZZ.out.1 (by kernel_rfl) rfl (by simp [Value.oneCell']) ?_) | (refine wpList_store_rowTo rfl 39 _ _ rfl rfl (w.heap.size+3) #[.int .i64 0,.int .u64 0,.int .i64 0,.int .i64 0] rfl rfl 39 #[.int .i64 0,.int .u64 0,.int .i64 0,.int .i64 0] HZZ.out.2.1 (by kernel_rfl) rfl (by simp [Value.oneCell']) ?_))
    try simp only [Exit.inBlock,Exit.then]
    exact bodyPost_ret (results_crl3 (by rfl) _ (w.heap.size+2) (w.heap.size+3) rfl rfl _ rfl _ _ _ rfl rfl HZZ.out.2.2.1 HZZ.out.2.2.2.1) rfl (fun z m n r t cd hr=>by
     obtain ⟨rfl,rfl,rfl,rfl,rfl,rfl⟩:=sgn_not HOK.out HC0.out hr
     rw [← HCD.out]; exact ⟨none,0,none,0,none,0,rfl,agI_zero.s (B:=0),HZZ.out.2.2.2.2⟩)
end Go.Proofs.YtnmplldhdfingaaGreatDoor
