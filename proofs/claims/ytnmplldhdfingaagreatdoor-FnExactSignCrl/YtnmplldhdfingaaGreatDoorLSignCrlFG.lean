import Derived.Test.YtnmplldhdfingaaGreatDoorFG46
set_option maxRecDepth 10000
set_option maxHeartbeats 8000000
set_option linter.unusedVariables false
namespace Go.Proofs.YtnmplldhdfingaaGreatDoor
open Go.RowKit Go.Sort
def sg5 (a1:Option Addr)(n1 c1:Nat)(a2:Option Addr)(n2 c2:Nat)(a3:Option Addr)(n3 c3:Nat)(x:CP)(sc kk hh nx:Int)(z:CP)(m n r:Nat)(t1 t2 t3 t4 cd:Int)(G B:Nat):RSpec where
 m:=14
 n:=16
 slots:=[25,26,27,28,29,24,30,31,32,6,7,6,7,8,100014,100015]
 kills:=[[],[4],[],[],[],[],[],[],[],[11],[12],[],[],[],[],[]]
 pres:=[[],[],[],[],[],[],[],[],[],[],[],[9,4],[10,4],[],[],[]]
 fact:=fun k v w=>match k with
  | 0=>v=.agg #[.slice a1 n1 c1,.int .i64 x.num,.int .i64 x.base,.int .i64 x.tm,.int .i64 x.next,.int .i64 x.scope,.bool x.ind,.slice a2 n2 c2,.slice a3 n3 c3]
  | 1=>∃ (u1:Option Addr) (u2:Option Addr) (u3:Option Addr),v=.agg #[.slice u1 n1 n1,.int .i64 x.num,.int .i64 x.base,.int .i64 x.tm,.int .i64 x.next,.int .i64 x.scope,.bool x.ind,.slice u2 n2 n2,.slice u3 n3 n3]∧CrG w u1 n1 u2 n2 u3 n3 x
  | 2=>v=.agg #[.int .i64 sc,.int .u64 kk,.int .i64 hh,.int .i64 nx]
  | 3=>v=.agg #[.int .i64 sc,.int .u64 kk,.int .i64 hh,.int .i64 nx]
  | 4=>∃ (p1:Option Addr) (f1:Nat) (p2:Option Addr) (f2:Nat) (p3:Option Addr) (f3:Nat),v=.tuple #[.agg #[.slice p1 m f1,.int .i64 z.num,.int .i64 z.base,.int .i64 z.tm,.int .i64 z.next,.int .i64 z.scope,.bool z.ind,.slice p2 n f2,.slice p3 r f3],.agg #[.int .i64 t1,.int .u64 t2,.int .i64 t3,.int .i64 t4],.int .i64 cd]∧AgS w p1 m f1 p2 n f2 p3 r f3 z
  | 5=>∃ (p1:Option Addr) (f1:Nat) (p2:Option Addr) (f2:Nat) (p3:Option Addr) (f3:Nat),v=.tuple #[.agg #[.slice p1 m f1,.int .i64 z.num,.int .i64 z.base,.int .i64 z.tm,.int .i64 z.next,.int .i64 z.scope,.bool z.ind,.slice p2 n f2,.slice p3 r f3],.agg #[.int .i64 t1,.int .u64 t2,.int .i64 t3,.int .i64 t4],.int .i64 cd]∧AgS w p1 m f1 p2 n f2 p3 r f3 z
  | 6=>∃ (p1:Option Addr) (f1:Nat) (p2:Option Addr) (f2:Nat) (p3:Option Addr) (f3:Nat),v=.agg #[.slice p1 m f1,.int .i64 z.num,.int .i64 z.base,.int .i64 z.tm,.int .i64 z.next,.int .i64 z.scope,.bool z.ind,.slice p2 n f2,.slice p3 r f3]∧AgS w p1 m f1 p2 n f2 p3 r f3 z
  | 7=>v=.agg #[.int .i64 t1,.int .u64 t2,.int .i64 t3,.int .i64 t4]
  | 8=>v=.int .i64 cd
  | 9=>∃ (gb9:Nat),v=.pointer (some ⟨gb9,0,none⟩)∧w.heap[gb9]? = some (.cells #[.slice none 0 0,.int .i64 0,.int .i64 0,.int .i64 0,.int .i64 0,.int .i64 0,.bool false,.slice none 0 0,.slice none 0 0] 38 (0,0))∧B≤gb9
  | 10=>∃ (gb10:Nat),v=.pointer (some ⟨gb10,0,none⟩)∧w.heap[gb10]? = some (.cells #[.int .i64 0,.int .u64 0,.int .i64 0,.int .i64 0] 39 (0,0))∧B≤gb10
  | 11=>∃ (gs11:Nat) (p1:Option Addr) (f1:Nat) (p2:Option Addr) (f2:Nat) (p3:Option Addr) (f3:Nat),v=.pointer (some ⟨gs11,0,none⟩)∧w.heap[gs11]? = some (.cells #[.slice p1 m f1,.int .i64 z.num,.int .i64 z.base,.int .i64 z.tm,.int .i64 z.next,.int .i64 z.scope,.bool z.ind,.slice p2 n f2,.slice p3 r f3] 38 (0,0))∧B≤gs11∧AgS w p1 m f1 p2 n f2 p3 r f3 z
  | 12=>∃ (gs12:Nat),v=.pointer (some ⟨gs12,0,none⟩)∧w.heap[gs12]? = some (.cells #[.int .i64 t1,.int .u64 t2,.int .i64 t3,.int .i64 t4] 39 (0,0))∧B≤gs12
  | 13=>v=.int .i64 cd
  | 14=>w.heap[G]? = some (.cells #[.slice a1 n1 c1,.int .i64 x.num,.int .i64 x.base,.int .i64 x.tm,.int .i64 x.next,.int .i64 x.scope,.bool x.ind,.slice a2 n2 c2,.slice a3 n3 c3] 28 (0,0))
  | _=>w.heap[(G+1)]? = some (.cells #[.int .i64 sc,.int .u64 kk,.int .i64 hh,.int .i64 nx] 31 (0,0))
theorem sg5_stb (a1:Option Addr)(n1 c1:Nat)(a2:Option Addr)(n2 c2:Nat)(a3:Option Addr)(n3 c3:Nat)(x:CP)(sc kk hh nx:Int)(z:CP)(m n r:Nat)(t1 t2 t3 t4 cd:Int)(G B:Nat)(k:Nat)(hk:k<16):StB ((sg5 a1 n1 c1 a2 n2 c2 a3 n3 c3 x sc kk hh nx z m n r t1 t2 t3 t4 cd G (B)).fact k):=by
 match k,hk with
 | 0,_=>exact fun _ _ _ h _=>h
 | 1,_=>exact fun _ _ _ ⟨u1,u2,u3,hv,q_0⟩ hb=>⟨u1,u2,u3,hv,q_0.kept hb⟩
 | 2,_=>exact fun _ _ _ h _=>h
 | 3,_=>exact fun _ _ _ h _=>h
 | 4,_=>exact fun _ _ _ ⟨p1,f1,p2,f2,p3,f3,hv,q_0⟩ hb=>⟨p1,f1,p2,f2,p3,f3,hv,q_0.kept hb⟩
 | 5,_=>exact fun _ _ _ ⟨p1,f1,p2,f2,p3,f3,hv,q_0⟩ hb=>⟨p1,f1,p2,f2,p3,f3,hv,q_0.kept hb⟩
 | 6,_=>exact fun _ _ _ ⟨p1,f1,p2,f2,p3,f3,hv,q_0⟩ hb=>⟨p1,f1,p2,f2,p3,f3,hv,q_0.kept hb⟩
 | 7,_=>exact fun _ _ _ h _=>h
 | 8,_=>exact fun _ _ _ h _=>h
 | 9,_=>exact fun _ _ _ ⟨gb9,hv,q_0,q_1⟩ hb=>⟨gb9,hv,below_kept q_0 hb,q_1⟩
 | 10,_=>exact fun _ _ _ ⟨gb10,hv,q_0,q_1⟩ hb=>⟨gb10,hv,below_kept q_0 hb,q_1⟩
 | 11,_=>exact fun _ _ _ ⟨gs11,p1,f1,p2,f2,p3,f3,hv,q_0,q_1,q_2⟩ hb=>⟨gs11,p1,f1,p2,f2,p3,f3,hv,below_kept q_0 hb,q_1,q_2.kept hb⟩
 | 12,_=>exact fun _ _ _ ⟨gs12,hv,q_0,q_1⟩ hb=>⟨gs12,hv,below_kept q_0 hb,q_1⟩
 | 13,_=>exact fun _ _ _ h _=>h
 | 14,_=>exact fun _ _ _ q_0 hb=>below_kept q_0 hb
 | 15,_=>exact fun _ _ _ q_0 hb=>below_kept q_0 hb
 | k+16,hk=>omega
theorem sg5_st11 (a1:Option Addr)(n1 c1:Nat)(a2:Option Addr)(n2 c2:Nat)(a3:Option Addr)(n3 c3:Nat)(x:CP)(sc kk hh nx:Int)(z:CP)(m n r:Nat)(t1 t2 t3 t4 cd:Int)(G B:Nat){W W2:World}{g:Nat}{cs:Array Value}{fr:Nat × Nat}(hg:W.heap[g]? = some (.cells cs 38 fr))(ht:Touch (g) (g+1) W W2)(hge:B≤g){lq:Nat→Bool}(hcl:∀ k,k<16→lq k=true→∀ j∈(sg5 a1 n1 c1 a2 n2 c2 a3 n3 c3 x sc kk hh nx z m n r t1 t2 t3 t4 cd G (B)).pre k,lq j=true)(hun:lq 11=false)(hpr:∀ j∈(sg5 a1 n1 c1 a2 n2 c2 a3 n3 c3 x sc kk hh nx z m n r t1 t2 t3 t4 cd G (B)).pre 11,lq j=true)(k:Nat)(hk:k<16)(hne:k≠11)(hl:lq k=true)(hks:∀ j∈(sg5 a1 n1 c1 a2 n2 c2 a3 n3 c3 x sc kk hh nx z m n r t1 t2 t3 t4 cd G (B)).kill k,lq j=false)(hkill:11∉(sg5 a1 n1 c1 a2 n2 c2 a3 n3 c3 x sc kk hh nx z m n r t1 t2 t3 t4 cd G (B)).kill k)(v:Value)(hfact:(sg5 a1 n1 c1 a2 n2 c2 a3 n3 c3 x sc kk hh nx z m n r t1 t2 t3 t4 cd G (B)).fact k v W):(sg5 a1 n1 c1 a2 n2 c2 a3 n3 c3 x sc kk hh nx z m n r t1 t2 t3 t4 cd G (B)).fact k v W2:=by
 match k,hk,hne,hl,hks,hkill,hfact with
 | 0,_,_,_,_,_,hq=>exact hq
 | 1,_,_,_,hks,_,_=>exact absurd (hpr 4 (List.Mem.tail _ (List.Mem.head _))) (by rw [hks 4 (List.Mem.head _)]; decide)
 | 2,_,_,_,_,_,hq=>exact hq
 | 3,_,_,_,_,_,hq=>exact hq
 | 4,_,_,_,_,_,⟨p1,f1,p2,f2,p3,f3,hv,q_0⟩=>exact ⟨p1,f1,p2,f2,p3,f3,hv,q_0.touched hg (by decide) (by decide) ht⟩
 | 5,_,_,_,_,_,⟨p1,f1,p2,f2,p3,f3,hv,q_0⟩=>exact ⟨p1,f1,p2,f2,p3,f3,hv,q_0.touched hg (by decide) (by decide) ht⟩
 | 6,_,_,_,_,_,⟨p1,f1,p2,f2,p3,f3,hv,q_0⟩=>exact ⟨p1,f1,p2,f2,p3,f3,hv,q_0.touched hg (by decide) (by decide) ht⟩
 | 7,_,_,_,_,_,hq=>exact hq
 | 8,_,_,_,_,_,hq=>exact hq
 | 9,_,_,_,_,hkill,_=>exact absurd (List.Mem.head _) hkill
 | 10,_,_,_,_,_,⟨gb10,hv,q_0,q_1⟩=>exact ⟨gb10,hv,box_box q_0 hg (by decide) ht,q_1⟩
 | 11,_,hne,_,_,_,_=>exact absurd rfl hne
 | 12,_,_,_,_,_,⟨gs12,hv,q_0,q_1⟩=>exact ⟨gs12,hv,box_box q_0 hg (by decide) ht,q_1⟩
 | 13,_,_,_,_,_,hq=>exact hq
 | 14,_,_,_,_,_,q_0=>exact box_box q_0 hg (by decide) ht
 | 15,_,_,_,_,_,q_0=>exact box_box q_0 hg (by decide) ht
 | k+16,hk,_,_,_,_,_=>omega
theorem sg5_st12 (a1:Option Addr)(n1 c1:Nat)(a2:Option Addr)(n2 c2:Nat)(a3:Option Addr)(n3 c3:Nat)(x:CP)(sc kk hh nx:Int)(z:CP)(m n r:Nat)(t1 t2 t3 t4 cd:Int)(G B:Nat){W W2:World}{g:Nat}{cs:Array Value}{fr:Nat × Nat}(hg:W.heap[g]? = some (.cells cs 39 fr))(ht:Touch (g) (g+1) W W2)(hge:B≤g){lq:Nat→Bool}(hcl:∀ k,k<16→lq k=true→∀ j∈(sg5 a1 n1 c1 a2 n2 c2 a3 n3 c3 x sc kk hh nx z m n r t1 t2 t3 t4 cd G (B)).pre k,lq j=true)(hun:lq 12=false)(hpr:∀ j∈(sg5 a1 n1 c1 a2 n2 c2 a3 n3 c3 x sc kk hh nx z m n r t1 t2 t3 t4 cd G (B)).pre 12,lq j=true)(k:Nat)(hk:k<16)(hne:k≠12)(hl:lq k=true)(hks:∀ j∈(sg5 a1 n1 c1 a2 n2 c2 a3 n3 c3 x sc kk hh nx z m n r t1 t2 t3 t4 cd G (B)).kill k,lq j=false)(hkill:12∉(sg5 a1 n1 c1 a2 n2 c2 a3 n3 c3 x sc kk hh nx z m n r t1 t2 t3 t4 cd G (B)).kill k)(v:Value)(hfact:(sg5 a1 n1 c1 a2 n2 c2 a3 n3 c3 x sc kk hh nx z m n r t1 t2 t3 t4 cd G (B)).fact k v W):(sg5 a1 n1 c1 a2 n2 c2 a3 n3 c3 x sc kk hh nx z m n r t1 t2 t3 t4 cd G (B)).fact k v W2:=by
 match k,hk,hne,hl,hks,hkill,hfact with
 | 0,_,_,_,_,_,hq=>exact hq
 | 1,_,_,_,hks,_,_=>exact absurd (hpr 4 (List.Mem.tail _ (List.Mem.head _))) (by rw [hks 4 (List.Mem.head _)]; decide)
 | 2,_,_,_,_,_,hq=>exact hq
 | 3,_,_,_,_,_,hq=>exact hq
 | 4,_,_,_,_,_,⟨p1,f1,p2,f2,p3,f3,hv,q_0⟩=>exact ⟨p1,f1,p2,f2,p3,f3,hv,q_0.touched hg (by decide) (by decide) ht⟩
 | 5,_,_,_,_,_,⟨p1,f1,p2,f2,p3,f3,hv,q_0⟩=>exact ⟨p1,f1,p2,f2,p3,f3,hv,q_0.touched hg (by decide) (by decide) ht⟩
 | 6,_,_,_,_,_,⟨p1,f1,p2,f2,p3,f3,hv,q_0⟩=>exact ⟨p1,f1,p2,f2,p3,f3,hv,q_0.touched hg (by decide) (by decide) ht⟩
 | 7,_,_,_,_,_,hq=>exact hq
 | 8,_,_,_,_,_,hq=>exact hq
 | 9,_,_,_,_,_,⟨gb9,hv,q_0,q_1⟩=>exact ⟨gb9,hv,box_box q_0 hg (by decide) ht,q_1⟩
 | 10,_,_,_,_,hkill,_=>exact absurd (List.Mem.head _) hkill
 | 11,_,_,_,_,_,⟨gs11,p1,f1,p2,f2,p3,f3,hv,q_0,q_1,q_2⟩=>exact ⟨gs11,p1,f1,p2,f2,p3,f3,hv,box_box q_0 hg (by decide) ht,q_1,q_2.touched hg (by decide) (by decide) ht⟩
 | 12,_,hne,_,_,_,_=>exact absurd rfl hne
 | 13,_,_,_,_,_,hq=>exact hq
 | 14,_,_,_,_,_,q_0=>exact box_box q_0 hg (by decide) ht
 | 15,_,_,_,_,_,q_0=>exact box_box q_0 hg (by decide) ht
 | k+16,hk,_,_,_,_,_=>omega
def sg7 (a1:Option Addr)(n1 c1:Nat)(a2:Option Addr)(n2 c2:Nat)(a3:Option Addr)(n3 c3:Nat)(x:CP)(sc kk hh nx:Int)(z:CP)(m n r:Nat)(t1 t2 t3 t4 cd:Int)(b1 b2 b3:Option Addr)(gk G B:Nat):RSpec where
 m:=13
 n:=15
 slots:=[36,37,38,39,35,40,41,42,10,11,10,11,12,100013,100014]
 kills:=[[],[],[],[],[],[],[],[],[10],[11],[],[],[],[],[]]
 pres:=[[],[],[],[],[],[],[],[],[],[],[8],[9],[],[],[]]
 fact:=fun k v w=>match k with
  | 0=>v=.agg #[.slice b1 n1 n1,.int .i64 x.num,.int .i64 x.base,.int .i64 x.tm,.int .i64 x.next,.int .i64 x.scope,.bool x.ind,.slice b2 n2 n2,.slice b3 n3 n3]
  | 1=>v=.agg #[.int .i64 sc,.int .u64 kk,.int .i64 hh,.int .i64 nx]
  | 2=>v=.agg #[.int .i64 sc,.int .u64 kk,.int .i64 hh,.int .i64 nx]
  | 3=>∃ (p1:Option Addr) (f1:Nat) (p2:Option Addr) (f2:Nat) (p3:Option Addr) (f3:Nat),v=.tuple #[.agg #[.slice p1 m f1,.int .i64 z.num,.int .i64 z.base,.int .i64 z.tm,.int .i64 z.next,.int .i64 z.scope,.bool z.ind,.slice p2 n f2,.slice p3 r f3],.agg #[.int .i64 t1,.int .u64 t2,.int .i64 t3,.int .i64 t4],.int .i64 cd]∧AgI B w p1 m f1 p2 n f2 p3 r f3 z
  | 4=>∃ (p1:Option Addr) (f1:Nat) (p2:Option Addr) (f2:Nat) (p3:Option Addr) (f3:Nat),v=.tuple #[.agg #[.slice p1 m f1,.int .i64 z.num,.int .i64 z.base,.int .i64 z.tm,.int .i64 z.next,.int .i64 z.scope,.bool z.ind,.slice p2 n f2,.slice p3 r f3],.agg #[.int .i64 t1,.int .u64 t2,.int .i64 t3,.int .i64 t4],.int .i64 cd]∧AgI B w p1 m f1 p2 n f2 p3 r f3 z
  | 5=>∃ (p1:Option Addr) (f1:Nat) (p2:Option Addr) (f2:Nat) (p3:Option Addr) (f3:Nat),v=.agg #[.slice p1 m f1,.int .i64 z.num,.int .i64 z.base,.int .i64 z.tm,.int .i64 z.next,.int .i64 z.scope,.bool z.ind,.slice p2 n f2,.slice p3 r f3]∧AgI B w p1 m f1 p2 n f2 p3 r f3 z
  | 6=>v=.agg #[.int .i64 t1,.int .u64 t2,.int .i64 t3,.int .i64 t4]
  | 7=>v=.int .i64 cd
  | 8=>∃ (gb8:Nat),v=.pointer (some ⟨gb8,0,none⟩)∧w.heap[gb8]? = some (.cells #[.slice none 0 0,.int .i64 0,.int .i64 0,.int .i64 0,.int .i64 0,.int .i64 0,.bool false,.slice none 0 0,.slice none 0 0] 38 (0,0))∧B≤gb8
  | 9=>∃ (gb9:Nat),v=.pointer (some ⟨gb9,0,none⟩)∧w.heap[gb9]? = some (.cells #[.int .i64 0,.int .u64 0,.int .i64 0,.int .i64 0] 39 (0,0))∧B≤gb9
  | 10=>∃ (gs10:Nat) (p1:Option Addr) (f1:Nat) (p2:Option Addr) (f2:Nat) (p3:Option Addr) (f3:Nat),v=.pointer (some ⟨gs10,0,none⟩)∧w.heap[gs10]? = some (.cells #[.slice p1 m f1,.int .i64 z.num,.int .i64 z.base,.int .i64 z.tm,.int .i64 z.next,.int .i64 z.scope,.bool z.ind,.slice p2 n f2,.slice p3 r f3] 38 (0,0))∧B≤gs10∧AgI B w p1 m f1 p2 n f2 p3 r f3 z
  | 11=>∃ (gs11:Nat),v=.pointer (some ⟨gs11,0,none⟩)∧w.heap[gs11]? = some (.cells #[.int .i64 t1,.int .u64 t2,.int .i64 t3,.int .i64 t4] 39 (0,0))∧B≤gs11
  | 12=>v=.int .i64 cd
  | 13=>w.heap[gk]? = some (.cells #[.slice b1 n1 n1,.int .i64 x.num,.int .i64 x.base,.int .i64 x.tm,.int .i64 x.next,.int .i64 x.scope,.bool x.ind,.slice b2 n2 n2,.slice b3 n3 n3] 38 (0,0))∧gk<B
  | _=>w.heap[(G+1)]? = some (.cells #[.int .i64 sc,.int .u64 kk,.int .i64 hh,.int .i64 nx] 31 (0,0))∧G+1<B
theorem sg7_stb (a1:Option Addr)(n1 c1:Nat)(a2:Option Addr)(n2 c2:Nat)(a3:Option Addr)(n3 c3:Nat)(x:CP)(sc kk hh nx:Int)(z:CP)(m n r:Nat)(t1 t2 t3 t4 cd:Int)(b1 b2 b3:Option Addr)(gk G B:Nat)(k:Nat)(hk:k<15):StB ((sg7 a1 n1 c1 a2 n2 c2 a3 n3 c3 x sc kk hh nx z m n r t1 t2 t3 t4 cd b1 b2 b3 gk G (B)).fact k):=by
 match k,hk with
 | 0,_=>exact fun _ _ _ h _=>h
 | 1,_=>exact fun _ _ _ h _=>h
 | 2,_=>exact fun _ _ _ h _=>h
 | 3,_=>exact fun _ _ _ ⟨p1,f1,p2,f2,p3,f3,hv,q_0⟩ hb=>⟨p1,f1,p2,f2,p3,f3,hv,q_0.kept hb⟩
 | 4,_=>exact fun _ _ _ ⟨p1,f1,p2,f2,p3,f3,hv,q_0⟩ hb=>⟨p1,f1,p2,f2,p3,f3,hv,q_0.kept hb⟩
 | 5,_=>exact fun _ _ _ ⟨p1,f1,p2,f2,p3,f3,hv,q_0⟩ hb=>⟨p1,f1,p2,f2,p3,f3,hv,q_0.kept hb⟩
 | 6,_=>exact fun _ _ _ h _=>h
 | 7,_=>exact fun _ _ _ h _=>h
 | 8,_=>exact fun _ _ _ ⟨gb8,hv,q_0,q_1⟩ hb=>⟨gb8,hv,below_kept q_0 hb,q_1⟩
 | 9,_=>exact fun _ _ _ ⟨gb9,hv,q_0,q_1⟩ hb=>⟨gb9,hv,below_kept q_0 hb,q_1⟩
 | 10,_=>exact fun _ _ _ ⟨gs10,p1,f1,p2,f2,p3,f3,hv,q_0,q_1,q_2⟩ hb=>⟨gs10,p1,f1,p2,f2,p3,f3,hv,below_kept q_0 hb,q_1,q_2.kept hb⟩
 | 11,_=>exact fun _ _ _ ⟨gs11,hv,q_0,q_1⟩ hb=>⟨gs11,hv,below_kept q_0 hb,q_1⟩
 | 12,_=>exact fun _ _ _ h _=>h
 | 13,_=>exact fun _ _ _ ⟨q_0,q_1⟩ hb=>⟨below_kept q_0 hb,q_1⟩
 | 14,_=>exact fun _ _ _ ⟨q_0,q_1⟩ hb=>⟨below_kept q_0 hb,q_1⟩
 | k+15,hk=>omega
theorem sg7_st10 (a1:Option Addr)(n1 c1:Nat)(a2:Option Addr)(n2 c2:Nat)(a3:Option Addr)(n3 c3:Nat)(x:CP)(sc kk hh nx:Int)(z:CP)(m n r:Nat)(t1 t2 t3 t4 cd:Int)(b1 b2 b3:Option Addr)(gk G B:Nat){W W2:World}{g:Nat}{cs:Array Value}{fr:Nat × Nat}(hg:W.heap[g]? = some (.cells cs 38 fr))(ht:Touch (g) (g+1) W W2)(hge:B≤g)(k:Nat)(hk:k<15)(hne:k≠10)(hkill:10∉(sg7 a1 n1 c1 a2 n2 c2 a3 n3 c3 x sc kk hh nx z m n r t1 t2 t3 t4 cd b1 b2 b3 gk G (B)).kill k)(v:Value)(hfact:(sg7 a1 n1 c1 a2 n2 c2 a3 n3 c3 x sc kk hh nx z m n r t1 t2 t3 t4 cd b1 b2 b3 gk G (B)).fact k v W):(sg7 a1 n1 c1 a2 n2 c2 a3 n3 c3 x sc kk hh nx z m n r t1 t2 t3 t4 cd b1 b2 b3 gk G (B)).fact k v W2:=by
 match k,hk,hne,hkill,hfact with
 | 0,_,_,_,hq=>exact hq
 | 1,_,_,_,hq=>exact hq
 | 2,_,_,_,hq=>exact hq
 | 3,_,_,_,⟨p1,f1,p2,f2,p3,f3,hv,q_0⟩=>exact ⟨p1,f1,p2,f2,p3,f3,hv,q_0.touched hg (by decide) (by decide) ht⟩
 | 4,_,_,_,⟨p1,f1,p2,f2,p3,f3,hv,q_0⟩=>exact ⟨p1,f1,p2,f2,p3,f3,hv,q_0.touched hg (by decide) (by decide) ht⟩
 | 5,_,_,_,⟨p1,f1,p2,f2,p3,f3,hv,q_0⟩=>exact ⟨p1,f1,p2,f2,p3,f3,hv,q_0.touched hg (by decide) (by decide) ht⟩
 | 6,_,_,_,hq=>exact hq
 | 7,_,_,_,hq=>exact hq
 | 8,_,_,hkill,_=>exact absurd (List.Mem.head _) hkill
 | 9,_,_,_,⟨gb9,hv,q_0,q_1⟩=>exact ⟨gb9,hv,box_box q_0 hg (by decide) ht,q_1⟩
 | 10,_,hne,_,_=>exact absurd rfl hne
 | 11,_,_,_,⟨gs11,hv,q_0,q_1⟩=>exact ⟨gs11,hv,box_box q_0 hg (by decide) ht,q_1⟩
 | 12,_,_,_,hq=>exact hq
 | 13,_,_,_,⟨q_0,q_1⟩=>exact ⟨(ht.block _ (Array.getElem?_eq_some_iff.1 q_0).1 (by omega)).trans q_0,q_1⟩
 | 14,_,_,_,⟨q_0,q_1⟩=>exact ⟨box_box q_0 hg (by decide) ht,q_1⟩
 | k+15,hk,_,_,_=>omega
theorem sg7_st11 (a1:Option Addr)(n1 c1:Nat)(a2:Option Addr)(n2 c2:Nat)(a3:Option Addr)(n3 c3:Nat)(x:CP)(sc kk hh nx:Int)(z:CP)(m n r:Nat)(t1 t2 t3 t4 cd:Int)(b1 b2 b3:Option Addr)(gk G B:Nat){W W2:World}{g:Nat}{cs:Array Value}{fr:Nat × Nat}(hg:W.heap[g]? = some (.cells cs 39 fr))(ht:Touch (g) (g+1) W W2)(hge:B≤g)(k:Nat)(hk:k<15)(hne:k≠11)(hkill:11∉(sg7 a1 n1 c1 a2 n2 c2 a3 n3 c3 x sc kk hh nx z m n r t1 t2 t3 t4 cd b1 b2 b3 gk G (B)).kill k)(v:Value)(hfact:(sg7 a1 n1 c1 a2 n2 c2 a3 n3 c3 x sc kk hh nx z m n r t1 t2 t3 t4 cd b1 b2 b3 gk G (B)).fact k v W):(sg7 a1 n1 c1 a2 n2 c2 a3 n3 c3 x sc kk hh nx z m n r t1 t2 t3 t4 cd b1 b2 b3 gk G (B)).fact k v W2:=by
 match k,hk,hne,hkill,hfact with
 | 0,_,_,_,hq=>exact hq
 | 1,_,_,_,hq=>exact hq
 | 2,_,_,_,hq=>exact hq
 | 3,_,_,_,⟨p1,f1,p2,f2,p3,f3,hv,q_0⟩=>exact ⟨p1,f1,p2,f2,p3,f3,hv,q_0.touched hg (by decide) (by decide) ht⟩
 | 4,_,_,_,⟨p1,f1,p2,f2,p3,f3,hv,q_0⟩=>exact ⟨p1,f1,p2,f2,p3,f3,hv,q_0.touched hg (by decide) (by decide) ht⟩
 | 5,_,_,_,⟨p1,f1,p2,f2,p3,f3,hv,q_0⟩=>exact ⟨p1,f1,p2,f2,p3,f3,hv,q_0.touched hg (by decide) (by decide) ht⟩
 | 6,_,_,_,hq=>exact hq
 | 7,_,_,_,hq=>exact hq
 | 8,_,_,_,⟨gb8,hv,q_0,q_1⟩=>exact ⟨gb8,hv,box_box q_0 hg (by decide) ht,q_1⟩
 | 9,_,_,hkill,_=>exact absurd (List.Mem.head _) hkill
 | 10,_,_,_,⟨gs10,p1,f1,p2,f2,p3,f3,hv,q_0,q_1,q_2⟩=>exact ⟨gs10,p1,f1,p2,f2,p3,f3,hv,box_box q_0 hg (by decide) ht,q_1,q_2.touched hg (by decide) (by decide) ht⟩
 | 11,_,hne,_,_=>exact absurd rfl hne
 | 12,_,_,_,hq=>exact hq
 | 13,_,_,_,⟨q_0,q_1⟩=>exact ⟨box_box q_0 hg (by decide) ht,q_1⟩
 | 14,_,_,_,⟨q_0,q_1⟩=>exact ⟨box_box q_0 hg (by decide) ht,q_1⟩
 | k+15,hk,_,_,_=>omega
def sg10 (a1:Option Addr)(n1 c1:Nat)(a2:Option Addr)(n2 c2:Nat)(a3:Option Addr)(n3 c3:Nat)(x:CP)(sc kk hh nx:Int)(b1 b2 b3:Option Addr)(gk G B:Nat):RSpec where
 m:=5
 n:=7
 slots:=[58,59,60,61,62,100005,100006]
 kills:=[[],[],[],[],[],[],[]]
 pres:=[[],[],[],[],[],[],[]]
 fact:=fun k v w=>match k with
  | 0=>v=.agg #[.slice b1 n1 n1,.int .i64 x.num,.int .i64 x.base,.int .i64 x.tm,.int .i64 x.next,.int .i64 x.scope,.bool x.ind,.slice b2 n2 n2,.slice b3 n3 n3]
  | 1=>v=.agg #[.slice a1 n1 c1,.int .i64 x.num,.int .i64 x.base,.int .i64 x.tm,.int .i64 x.next,.int .i64 x.scope,.bool x.ind,.slice a2 n2 c2,.slice a3 n3 c3]
  | 2=>∃ (s1:Option Addr) (s2:Option Addr) (s3:Option Addr),v=.agg #[.slice s1 n1 n1,.int .i64 x.num,.int .i64 x.base,.int .i64 x.tm,.int .i64 x.next,.int .i64 x.scope,.bool x.ind,.slice s2 n2 n2,.slice s3 n3 n3]∧CrG w s1 n1 s2 n2 s3 n3 x
  | 3=>v=.bool true
  | 4=>v=.bool false
  | 5=>w.heap[gk]? = some (.cells #[.slice b1 n1 n1,.int .i64 x.num,.int .i64 x.base,.int .i64 x.tm,.int .i64 x.next,.int .i64 x.scope,.bool x.ind,.slice b2 n2 n2,.slice b3 n3 n3] 38 (0,0))
  | _=>w.heap[G]? = some (.cells #[.slice a1 n1 c1,.int .i64 x.num,.int .i64 x.base,.int .i64 x.tm,.int .i64 x.next,.int .i64 x.scope,.bool x.ind,.slice a2 n2 c2,.slice a3 n3 c3] 28 (0,0))
theorem sg10_stb (a1:Option Addr)(n1 c1:Nat)(a2:Option Addr)(n2 c2:Nat)(a3:Option Addr)(n3 c3:Nat)(x:CP)(sc kk hh nx:Int)(b1 b2 b3:Option Addr)(gk G B:Nat)(k:Nat)(hk:k<7):StB ((sg10 a1 n1 c1 a2 n2 c2 a3 n3 c3 x sc kk hh nx b1 b2 b3 gk G (B)).fact k):=by
 match k,hk with
 | 0,_=>exact fun _ _ _ h _=>h
 | 1,_=>exact fun _ _ _ h _=>h
 | 2,_=>exact fun _ _ _ ⟨s1,s2,s3,hv,q_0⟩ hb=>⟨s1,s2,s3,hv,q_0.kept hb⟩
 | 3,_=>exact fun _ _ _ h _=>h
 | 4,_=>exact fun _ _ _ h _=>h
 | 5,_=>exact fun _ _ _ q_0 hb=>below_kept q_0 hb
 | 6,_=>exact fun _ _ _ q_0 hb=>below_kept q_0 hb
 | k+7,hk=>omega
def sg24 (a1:Option Addr)(n1 c1:Nat)(a2:Option Addr)(n2 c2:Nat)(a3:Option Addr)(n3 c3:Nat)(x:CP)(sc kk hh nx:Int)(z:CP)(m n r:Nat)(t1 t2 t3 t4 cd:Int)(G B:Nat):RSpec where
 m:=14
 n:=16
 slots:=[97,98,99,100,101,96,102,103,104,16,17,16,17,18,100014,100015]
 kills:=[[],[4],[],[],[],[],[],[],[],[11],[12],[],[],[],[],[]]
 pres:=[[],[],[],[],[],[],[],[],[],[],[],[9,4],[10,4],[],[],[]]
 fact:=fun k v w=>match k with
  | 0=>v=.agg #[.slice a1 n1 c1,.int .i64 x.num,.int .i64 x.base,.int .i64 x.tm,.int .i64 x.next,.int .i64 x.scope,.bool x.ind,.slice a2 n2 c2,.slice a3 n3 c3]
  | 1=>∃ (u1:Option Addr) (u2:Option Addr) (u3:Option Addr),v=.agg #[.slice u1 n1 n1,.int .i64 x.num,.int .i64 x.base,.int .i64 x.tm,.int .i64 x.next,.int .i64 x.scope,.bool x.ind,.slice u2 n2 n2,.slice u3 n3 n3]∧CrG w u1 n1 u2 n2 u3 n3 x
  | 2=>v=.agg #[.int .i64 sc,.int .u64 kk,.int .i64 hh,.int .i64 nx]
  | 3=>v=.agg #[.int .i64 sc,.int .u64 kk,.int .i64 hh,.int .i64 nx]
  | 4=>∃ (p1:Option Addr) (f1:Nat) (p2:Option Addr) (f2:Nat) (p3:Option Addr) (f3:Nat),v=.tuple #[.agg #[.slice p1 m f1,.int .i64 z.num,.int .i64 z.base,.int .i64 z.tm,.int .i64 z.next,.int .i64 z.scope,.bool z.ind,.slice p2 n f2,.slice p3 r f3],.agg #[.int .i64 t1,.int .u64 t2,.int .i64 t3,.int .i64 t4],.int .i64 cd]∧AgS w p1 m f1 p2 n f2 p3 r f3 z
  | 5=>∃ (p1:Option Addr) (f1:Nat) (p2:Option Addr) (f2:Nat) (p3:Option Addr) (f3:Nat),v=.tuple #[.agg #[.slice p1 m f1,.int .i64 z.num,.int .i64 z.base,.int .i64 z.tm,.int .i64 z.next,.int .i64 z.scope,.bool z.ind,.slice p2 n f2,.slice p3 r f3],.agg #[.int .i64 t1,.int .u64 t2,.int .i64 t3,.int .i64 t4],.int .i64 cd]∧AgS w p1 m f1 p2 n f2 p3 r f3 z
  | 6=>∃ (p1:Option Addr) (f1:Nat) (p2:Option Addr) (f2:Nat) (p3:Option Addr) (f3:Nat),v=.agg #[.slice p1 m f1,.int .i64 z.num,.int .i64 z.base,.int .i64 z.tm,.int .i64 z.next,.int .i64 z.scope,.bool z.ind,.slice p2 n f2,.slice p3 r f3]∧AgS w p1 m f1 p2 n f2 p3 r f3 z
  | 7=>v=.agg #[.int .i64 t1,.int .u64 t2,.int .i64 t3,.int .i64 t4]
  | 8=>v=.int .i64 cd
  | 9=>∃ (gb9:Nat),v=.pointer (some ⟨gb9,0,none⟩)∧w.heap[gb9]? = some (.cells #[.slice none 0 0,.int .i64 0,.int .i64 0,.int .i64 0,.int .i64 0,.int .i64 0,.bool false,.slice none 0 0,.slice none 0 0] 38 (0,0))∧B≤gb9
  | 10=>∃ (gb10:Nat),v=.pointer (some ⟨gb10,0,none⟩)∧w.heap[gb10]? = some (.cells #[.int .i64 0,.int .u64 0,.int .i64 0,.int .i64 0] 39 (0,0))∧B≤gb10
  | 11=>∃ (gs11:Nat) (p1:Option Addr) (f1:Nat) (p2:Option Addr) (f2:Nat) (p3:Option Addr) (f3:Nat),v=.pointer (some ⟨gs11,0,none⟩)∧w.heap[gs11]? = some (.cells #[.slice p1 m f1,.int .i64 z.num,.int .i64 z.base,.int .i64 z.tm,.int .i64 z.next,.int .i64 z.scope,.bool z.ind,.slice p2 n f2,.slice p3 r f3] 38 (0,0))∧B≤gs11∧AgS w p1 m f1 p2 n f2 p3 r f3 z
  | 12=>∃ (gs12:Nat),v=.pointer (some ⟨gs12,0,none⟩)∧w.heap[gs12]? = some (.cells #[.int .i64 t1,.int .u64 t2,.int .i64 t3,.int .i64 t4] 39 (0,0))∧B≤gs12
  | 13=>v=.int .i64 cd
  | 14=>w.heap[G]? = some (.cells #[.slice a1 n1 c1,.int .i64 x.num,.int .i64 x.base,.int .i64 x.tm,.int .i64 x.next,.int .i64 x.scope,.bool x.ind,.slice a2 n2 c2,.slice a3 n3 c3] 28 (0,0))
  | _=>w.heap[(G+1)]? = some (.cells #[.int .i64 sc,.int .u64 kk,.int .i64 hh,.int .i64 nx] 31 (0,0))
theorem sg24_stb (a1:Option Addr)(n1 c1:Nat)(a2:Option Addr)(n2 c2:Nat)(a3:Option Addr)(n3 c3:Nat)(x:CP)(sc kk hh nx:Int)(z:CP)(m n r:Nat)(t1 t2 t3 t4 cd:Int)(G B:Nat)(k:Nat)(hk:k<16):StB ((sg24 a1 n1 c1 a2 n2 c2 a3 n3 c3 x sc kk hh nx z m n r t1 t2 t3 t4 cd G (B)).fact k):=by
 match k,hk with
 | 0,_=>exact fun _ _ _ h _=>h
 | 1,_=>exact fun _ _ _ ⟨u1,u2,u3,hv,q_0⟩ hb=>⟨u1,u2,u3,hv,q_0.kept hb⟩
 | 2,_=>exact fun _ _ _ h _=>h
 | 3,_=>exact fun _ _ _ h _=>h
 | 4,_=>exact fun _ _ _ ⟨p1,f1,p2,f2,p3,f3,hv,q_0⟩ hb=>⟨p1,f1,p2,f2,p3,f3,hv,q_0.kept hb⟩
 | 5,_=>exact fun _ _ _ ⟨p1,f1,p2,f2,p3,f3,hv,q_0⟩ hb=>⟨p1,f1,p2,f2,p3,f3,hv,q_0.kept hb⟩
 | 6,_=>exact fun _ _ _ ⟨p1,f1,p2,f2,p3,f3,hv,q_0⟩ hb=>⟨p1,f1,p2,f2,p3,f3,hv,q_0.kept hb⟩
 | 7,_=>exact fun _ _ _ h _=>h
 | 8,_=>exact fun _ _ _ h _=>h
 | 9,_=>exact fun _ _ _ ⟨gb9,hv,q_0,q_1⟩ hb=>⟨gb9,hv,below_kept q_0 hb,q_1⟩
 | 10,_=>exact fun _ _ _ ⟨gb10,hv,q_0,q_1⟩ hb=>⟨gb10,hv,below_kept q_0 hb,q_1⟩
 | 11,_=>exact fun _ _ _ ⟨gs11,p1,f1,p2,f2,p3,f3,hv,q_0,q_1,q_2⟩ hb=>⟨gs11,p1,f1,p2,f2,p3,f3,hv,below_kept q_0 hb,q_1,q_2.kept hb⟩
 | 12,_=>exact fun _ _ _ ⟨gs12,hv,q_0,q_1⟩ hb=>⟨gs12,hv,below_kept q_0 hb,q_1⟩
 | 13,_=>exact fun _ _ _ h _=>h
 | 14,_=>exact fun _ _ _ q_0 hb=>below_kept q_0 hb
 | 15,_=>exact fun _ _ _ q_0 hb=>below_kept q_0 hb
 | k+16,hk=>omega
theorem sg24_st11 (a1:Option Addr)(n1 c1:Nat)(a2:Option Addr)(n2 c2:Nat)(a3:Option Addr)(n3 c3:Nat)(x:CP)(sc kk hh nx:Int)(z:CP)(m n r:Nat)(t1 t2 t3 t4 cd:Int)(G B:Nat){W W2:World}{g:Nat}{cs:Array Value}{fr:Nat × Nat}(hg:W.heap[g]? = some (.cells cs 38 fr))(ht:Touch (g) (g+1) W W2)(hge:B≤g){lq:Nat→Bool}(hcl:∀ k,k<16→lq k=true→∀ j∈(sg24 a1 n1 c1 a2 n2 c2 a3 n3 c3 x sc kk hh nx z m n r t1 t2 t3 t4 cd G (B)).pre k,lq j=true)(hun:lq 11=false)(hpr:∀ j∈(sg24 a1 n1 c1 a2 n2 c2 a3 n3 c3 x sc kk hh nx z m n r t1 t2 t3 t4 cd G (B)).pre 11,lq j=true)(k:Nat)(hk:k<16)(hne:k≠11)(hl:lq k=true)(hks:∀ j∈(sg24 a1 n1 c1 a2 n2 c2 a3 n3 c3 x sc kk hh nx z m n r t1 t2 t3 t4 cd G (B)).kill k,lq j=false)(hkill:11∉(sg24 a1 n1 c1 a2 n2 c2 a3 n3 c3 x sc kk hh nx z m n r t1 t2 t3 t4 cd G (B)).kill k)(v:Value)(hfact:(sg24 a1 n1 c1 a2 n2 c2 a3 n3 c3 x sc kk hh nx z m n r t1 t2 t3 t4 cd G (B)).fact k v W):(sg24 a1 n1 c1 a2 n2 c2 a3 n3 c3 x sc kk hh nx z m n r t1 t2 t3 t4 cd G (B)).fact k v W2:=by
 match k,hk,hne,hl,hks,hkill,hfact with
 | 0,_,_,_,_,_,hq=>exact hq
 | 1,_,_,_,hks,_,_=>exact absurd (hpr 4 (List.Mem.tail _ (List.Mem.head _))) (by rw [hks 4 (List.Mem.head _)]; decide)
 | 2,_,_,_,_,_,hq=>exact hq
 | 3,_,_,_,_,_,hq=>exact hq
 | 4,_,_,_,_,_,⟨p1,f1,p2,f2,p3,f3,hv,q_0⟩=>exact ⟨p1,f1,p2,f2,p3,f3,hv,q_0.touched hg (by decide) (by decide) ht⟩
 | 5,_,_,_,_,_,⟨p1,f1,p2,f2,p3,f3,hv,q_0⟩=>exact ⟨p1,f1,p2,f2,p3,f3,hv,q_0.touched hg (by decide) (by decide) ht⟩
 | 6,_,_,_,_,_,⟨p1,f1,p2,f2,p3,f3,hv,q_0⟩=>exact ⟨p1,f1,p2,f2,p3,f3,hv,q_0.touched hg (by decide) (by decide) ht⟩
 | 7,_,_,_,_,_,hq=>exact hq
 | 8,_,_,_,_,_,hq=>exact hq
 | 9,_,_,_,_,hkill,_=>exact absurd (List.Mem.head _) hkill
 | 10,_,_,_,_,_,⟨gb10,hv,q_0,q_1⟩=>exact ⟨gb10,hv,box_box q_0 hg (by decide) ht,q_1⟩
 | 11,_,hne,_,_,_,_=>exact absurd rfl hne
 | 12,_,_,_,_,_,⟨gs12,hv,q_0,q_1⟩=>exact ⟨gs12,hv,box_box q_0 hg (by decide) ht,q_1⟩
 | 13,_,_,_,_,_,hq=>exact hq
 | 14,_,_,_,_,_,q_0=>exact box_box q_0 hg (by decide) ht
 | 15,_,_,_,_,_,q_0=>exact box_box q_0 hg (by decide) ht
 | k+16,hk,_,_,_,_,_=>omega
theorem sg24_st12 (a1:Option Addr)(n1 c1:Nat)(a2:Option Addr)(n2 c2:Nat)(a3:Option Addr)(n3 c3:Nat)(x:CP)(sc kk hh nx:Int)(z:CP)(m n r:Nat)(t1 t2 t3 t4 cd:Int)(G B:Nat){W W2:World}{g:Nat}{cs:Array Value}{fr:Nat × Nat}(hg:W.heap[g]? = some (.cells cs 39 fr))(ht:Touch (g) (g+1) W W2)(hge:B≤g){lq:Nat→Bool}(hcl:∀ k,k<16→lq k=true→∀ j∈(sg24 a1 n1 c1 a2 n2 c2 a3 n3 c3 x sc kk hh nx z m n r t1 t2 t3 t4 cd G (B)).pre k,lq j=true)(hun:lq 12=false)(hpr:∀ j∈(sg24 a1 n1 c1 a2 n2 c2 a3 n3 c3 x sc kk hh nx z m n r t1 t2 t3 t4 cd G (B)).pre 12,lq j=true)(k:Nat)(hk:k<16)(hne:k≠12)(hl:lq k=true)(hks:∀ j∈(sg24 a1 n1 c1 a2 n2 c2 a3 n3 c3 x sc kk hh nx z m n r t1 t2 t3 t4 cd G (B)).kill k,lq j=false)(hkill:12∉(sg24 a1 n1 c1 a2 n2 c2 a3 n3 c3 x sc kk hh nx z m n r t1 t2 t3 t4 cd G (B)).kill k)(v:Value)(hfact:(sg24 a1 n1 c1 a2 n2 c2 a3 n3 c3 x sc kk hh nx z m n r t1 t2 t3 t4 cd G (B)).fact k v W):(sg24 a1 n1 c1 a2 n2 c2 a3 n3 c3 x sc kk hh nx z m n r t1 t2 t3 t4 cd G (B)).fact k v W2:=by
 match k,hk,hne,hl,hks,hkill,hfact with
 | 0,_,_,_,_,_,hq=>exact hq
 | 1,_,_,_,hks,_,_=>exact absurd (hpr 4 (List.Mem.tail _ (List.Mem.head _))) (by rw [hks 4 (List.Mem.head _)]; decide)
 | 2,_,_,_,_,_,hq=>exact hq
 | 3,_,_,_,_,_,hq=>exact hq
 | 4,_,_,_,_,_,⟨p1,f1,p2,f2,p3,f3,hv,q_0⟩=>exact ⟨p1,f1,p2,f2,p3,f3,hv,q_0.touched hg (by decide) (by decide) ht⟩
 | 5,_,_,_,_,_,⟨p1,f1,p2,f2,p3,f3,hv,q_0⟩=>exact ⟨p1,f1,p2,f2,p3,f3,hv,q_0.touched hg (by decide) (by decide) ht⟩
 | 6,_,_,_,_,_,⟨p1,f1,p2,f2,p3,f3,hv,q_0⟩=>exact ⟨p1,f1,p2,f2,p3,f3,hv,q_0.touched hg (by decide) (by decide) ht⟩
 | 7,_,_,_,_,_,hq=>exact hq
 | 8,_,_,_,_,_,hq=>exact hq
 | 9,_,_,_,_,_,⟨gb9,hv,q_0,q_1⟩=>exact ⟨gb9,hv,box_box q_0 hg (by decide) ht,q_1⟩
 | 10,_,_,_,_,hkill,_=>exact absurd (List.Mem.head _) hkill
 | 11,_,_,_,_,_,⟨gs11,p1,f1,p2,f2,p3,f3,hv,q_0,q_1,q_2⟩=>exact ⟨gs11,p1,f1,p2,f2,p3,f3,hv,box_box q_0 hg (by decide) ht,q_1,q_2.touched hg (by decide) (by decide) ht⟩
 | 12,_,hne,_,_,_,_=>exact absurd rfl hne
 | 13,_,_,_,_,_,hq=>exact hq
 | 14,_,_,_,_,_,q_0=>exact box_box q_0 hg (by decide) ht
 | 15,_,_,_,_,_,q_0=>exact box_box q_0 hg (by decide) ht
 | k+16,hk,_,_,_,_,_=>omega
theorem lawSignCrl_walk (HSPEC : HTree) (a1 : Option Addr) (n1 c1 : Nat) (a2 : Option Addr) (n2 c2 : Nat) (a3 : Option Addr) (n3 c3 : Nat) (x : CP) (sc kk hh nx : Int) (w : World) (htab : Lib.TabIs Tryz.prog w "internal/strconv.uint64pow10" .u64 Lib.pow10Tab) (hsc : -9223372036854775808 ≤ x.scope ∧ x.scope ≤ 9223372036854775807) (hu : U64 kk) (h : Crs w a1 n1 a2 n2 a3 n3 x) :
  Calls Tryz.prog 3 #[crv a1 n1 c1 a2 n2 c2 a3 n3 c3 x,.agg #[.int .i64 sc,.int .u64 kk,.int .i64 hh,.int .i64 nx]] w fun e w'=>e=.returned (.bool true)∧Below w.heap.size w w':=by
 have HTR:Hid HTree:=HSPEC
 have HA:Hid (Crs w a1 n1 a2 n2 a3 n3 x):=h
 have HSC:Hid (-9223372036854775808≤x.scope∧x.scope≤9223372036854775807):=hsc
 have HU:Hid (U64 kk):=hu
 have HTB : Hid (∀ W, Below w.heap.size w W → Lib.TabIs Tryz.prog W "internal/strconv.uint64pow10" .u64 Lib.pow10Tab) := fun W hW => Lib.tabBelow_of_tabIs htab W hW
 clear h hsc htab hu HSPEC
 obtain ⟨w2,hw0⟩:∃ w2,w2=(w.alloc (.cells #[.slice a1 n1 c1,.int .i64 x.num,.int .i64 x.base,.int .i64 x.tm,.int .i64 x.next,.int .i64 x.scope,.bool x.ind,.slice a2 n2 c2,.slice a3 n3 c3] 28)).alloc (.cells #[.int .i64 sc,.int .u64 kk,.int .i64 hh,.int .i64 nx] 31):=⟨_,rfl⟩
 have hb0:Below w.heap.size w w2:=by rw [hw0]; exact ((Below.refl _ _).alloc (Nat.le_refl _) _).alloc (by simp) _
 have hB0:w2.heap[w.heap.size]? = some (.cells #[.slice a1 n1 c1,.int .i64 x.num,.int .i64 x.base,.int .i64 x.tm,.int .i64 x.next,.int .i64 x.scope,.bool x.ind,.slice a2 n2 c2,.slice a3 n3 c3] 28 (0,0))∧w2.heap[w.heap.size+1]? = some (.cells #[.int .i64 sc,.int .u64 kk,.int .i64 hh,.int .i64 nx] 31 (0,0)):=by rw [hw0]; exact two_blocks w _ _
 have F1:Hid (FrL w [(w.heap.size,#[.slice a1 n1 c1,.int .i64 x.num,.int .i64 x.base,.int .i64 x.tm,.int .i64 x.next,.int .i64 x.scope,.bool x.ind,.slice a2 n2 c2,.slice a3 n3 c3],28),(w.heap.size+1,#[.int .i64 sc,.int .u64 kk,.int .i64 hh,.int .i64 nx],31)] w2):=⟨hb0,fun p hp=>by
  simp only [List.mem_cons,List.not_mem_nil,or_false] at hp
  rcases hp with rfl | rfl
  ·exact hB0.1
  ·exact hB0.2⟩
 have HW:Hid (_=_):=hw0
 clear hw0 hb0 hB0
 obtain ⟨w1,hw1⟩:∃ w1,w1=w2:=⟨_,rfl⟩
 rw [← hw1] at F1 HW
 clear hw1 w2
 unfold crv
 go_enter Tryz.func3,Tryz.ntmps3
 go_upto_region 2 with fail
 rw [← HW.out]
 clear HW
 go_wp2_with (refine wpList_load_row rfl 28 _ rfl (w.heap.size) rfl 28 #[.slice a1 n1 c1,.int .i64 x.num,.int .i64 x.base,.int .i64 x.tm,.int .i64 x.next,.int .i64 x.scope,.bool x.ind,.slice a2 n2 c2,.slice a3 n3 c3] (0,0) _ (F1.out.all (w.heap.size,#[.slice a1 n1 c1,.int .i64 x.num,.int .i64 x.base,.int .i64 x.tm,.int .i64 x.next,.int .i64 x.scope,.bool x.ind,.slice a2 n2 c2,.slice a3 n3 c3],28) (by simp)) Tryz.underlying28 rfl (by kernel_rfl) ?_)
 refine (szCrl_raw a1 n1 c1 a2 n2 c2 a3 n3 c3 x 1048576 _ (HA.out.kept F1.out.below) (by decide) (by decide)).mono ?_
 rintro e w2 ⟨rr,rfl,hr,hb⟩
 have F2:Hid (_):=F1.out.on hb
 clear hb F1
 by_cases hneg:rr<0
 ·clear hr
  go_wp2
  go_ret
  exact ⟨rfl,F2.out.below⟩
 have HZX:Hid (CpOk n1 n2 n3 x):=by rcases hr with h | h; exact absurd h hneg; exact h.2.2
 clear hr
 obtain ⟨z,m,n,r,⟨t1,t2,t3,t4⟩,cd,hoz,hos,hoi⟩:=sgn_out (sc:=sc) (k:=kk) (h:=hh) (nx:=nx) HZX.out
 have HOZ:Hid (CpOk m n r z):=hoz
 have HTX:Hid (∀ (W:World),Below w.heap.size w W→Calls Tryz.prog 6 #[.agg #[.slice a1 n1 c1,.int .i64 x.num,.int .i64 x.base,.int .i64 x.tm,.int .i64 x.next,.int .i64 x.scope,.bool x.ind,.slice a2 n2 c2,.slice a3 n3 c3]] W fun e w'=>∃ u1 u2 u3,e=.returned (.agg #[.slice u1 n1 n1,.int .i64 x.num,.int .i64 x.base,.int .i64 x.tm,.int .i64 x.next,.int .i64 x.scope,.bool x.ind,.slice u2 n2 n2,.slice u3 n3 n3])∧CrG w' u1 n1 u2 n2 u3 n3 x∧(∃ v1 sl pv vs,OwnC W.heap.size w' u1 n1 n1 u2 n2 n2 u3 n3 n3 v1 sl pv vs x.sig∧∀ j,j<n2→(sl j).2.1≤1048576)∧Below W.heap.size W w'):=fun W hW=>toCrl_g a1 n1 c1 a2 n2 c2 a3 n3 c3 x W (HA.out.kept hW) HZX.out
 have HSP:Hid (∀ (W:World) (u1 u2 u3:Option Addr),Below w.heap.size w W→CrG W u1 n1 u2 n2 u3 n3 x→Calls Tryz.prog 5 #[.agg #[.slice u1 n1 n1,.int .i64 x.num,.int .i64 x.base,.int .i64 x.tm,.int .i64 x.next,.int .i64 x.scope,.bool x.ind,.slice u2 n2 n2,.slice u3 n3 n3],.agg #[.int .i64 sc,.int .u64 kk,.int .i64 hh,.int .i64 nx]] W fun e w'=>∃ p1 f1 p2 f2 p3 f3,e=.returned (.tuple #[.agg #[.slice p1 m f1,.int .i64 z.num,.int .i64 z.base,.int .i64 z.tm,.int .i64 z.next,.int .i64 z.scope,.bool z.ind,.slice p2 n f2,.slice p3 r f3],.agg #[.int .i64 t1,.int .u64 t2,.int .i64 t3,.int .i64 t4],.int .i64 cd])∧AgS w' p1 m f1 p2 n f2 p3 r f3 z∧Below W.heap.size W w'):=fun W u1 u2 u3 hW hu=>(specSignCrl_any HTR.out u1 n1 n1 u2 n2 n2 u3 n3 n3 x sc kk hh nx W hu.crs HZX.out HU.out hu.caps.nm hu.caps.sg hu.caps.en).mono fun e w' q=>hos _ _ _ q
 have HIM:Hid (∀ (W:World) (u1 u2 u3:Option Addr),Below w.heap.size w W→CrG W u1 n1 u2 n2 u3 n3 x→Calls Tryz.prog 8 #[.agg #[.slice u1 n1 n1,.int .i64 x.num,.int .i64 x.base,.int .i64 x.tm,.int .i64 x.next,.int .i64 x.scope,.bool x.ind,.slice u2 n2 n2,.slice u3 n3 n3],.agg #[.int .i64 sc,.int .u64 kk,.int .i64 hh,.int .i64 nx]] W fun e w'=>∃ p1 f1 p2 f2 p3 f3,e=.returned (.tuple #[.agg #[.slice p1 m f1,.int .i64 z.num,.int .i64 z.base,.int .i64 z.tm,.int .i64 z.next,.int .i64 z.scope,.bool z.ind,.slice p2 n f2,.slice p3 r f3],.agg #[.int .i64 t1,.int .u64 t2,.int .i64 t3,.int .i64 t4],.int .i64 cd])∧AgI W.heap.size w' p1 m f1 p2 n f2 p3 r f3 z∧Below W.heap.size W w'):=fun W u1 u2 u3 hW hu=>(implSignCrl_any u1 n1 n1 u2 n2 n2 u3 n3 n3 x sc kk hh nx W (HTB.out W hW) HSC.out hu.crs HZX.out HU.out hu.caps.nm hu.caps.en).mono fun e w' q=>hoi _ _ _ q
 have HIS:Hid (∀ (W:World) (u1 u2 u3:Option Addr),Below w.heap.size w W→CrG W u1 n1 u2 n2 u3 n3 x→Calls Tryz.prog 8 #[.agg #[.slice u1 n1 n1,.int .i64 x.num,.int .i64 x.base,.int .i64 x.tm,.int .i64 x.next,.int .i64 x.scope,.bool x.ind,.slice u2 n2 n2,.slice u3 n3 n3],.agg #[.int .i64 sc,.int .u64 kk,.int .i64 hh,.int .i64 nx]] W fun e w'=>∃ p1 f1 p2 f2 p3 f3,e=.returned (.tuple #[.agg #[.slice p1 m f1,.int .i64 z.num,.int .i64 z.base,.int .i64 z.tm,.int .i64 z.next,.int .i64 z.scope,.bool z.ind,.slice p2 n f2,.slice p3 r f3],.agg #[.int .i64 t1,.int .u64 t2,.int .i64 t3,.int .i64 t4],.int .i64 cd])∧AgS w' p1 m f1 p2 n f2 p3 r f3 z∧Below W.heap.size W w'):=fun W u1 u2 u3 hW hu=>(implSignCrl_any u1 n1 n1 u2 n2 n2 u3 n3 n3 x sc kk hh nx W (HTB.out W hW) HSC.out hu.crs HZX.out HU.out hu.caps.nm hu.caps.en).mono fun e w' q=>by
  obtain ⟨p1,f1,p2,f2,p3,f3,h1,h2,h3⟩:=hoi _ _ _ q
  exact ⟨p1,f1,p2,f2,p3,f3,h1,h2.s,h3⟩
 have HCB:Hid (∀ W,Below w2.heap.size w2 W→Below w.heap.size w W):=fun W hW=>F2.out.below.trans (hW.mono F2.out.below.size)
 have HBB:w2.heap.size≤w2.heap.size:=Nat.le_refl _
 clear hoz hos hoi HTB HSC
 go_upto_region 5 with fail
 have stb:=sg5_stb a1 n1 c1 a2 n2 c2 a3 n3 c3 x sc kk hh nx z m n r t1 t2 t3 t4 cd w.heap.size (w2.heap.size)
 refine wp_region_ri (sg5 a1 n1 c1 a2 n2 c2 a3 n3 c3 x sc kk hh nx z m n r t1 t2 t3 t4 cd w.heap.size (w2.heap.size)) [6,7,8,24,25,26,27,28,29,30,31,32] (w2.heap.size) (fun a0=>a0.tmps.size=128∧aT a0 2=.pointer (some ⟨w.heap.size,0,none⟩)∧aT a0 3=.pointer (some ⟨(w.heap.size+1),0,none⟩)) (by kernel_rfl) rfl (by kernel_rfl) rfl ⟨rfl,rfl,rfl⟩ stb ?_ ?_ ?_
 ·exact vt2 (m:=14) ((F2.out.all (w.heap.size,#[.slice a1 n1 c1,.int .i64 x.num,.int .i64 x.base,.int .i64 x.tm,.int .i64 x.next,.int .i64 x.scope,.bool x.ind,.slice a2 n2 c2,.slice a3 n3 c3],28) (by simp))) ((F2.out.all (w.heap.size+1,#[.int .i64 sc,.int .u64 kk,.int .i64 hh,.int .i64 nx],31) (by simp)))
 ·rintro a0 ⟨hz,g2,g3⟩
  refine StepsRI.cons ?_ (StepsRI.cons ?_ (StepsRI.cons ?_ (StepsRI.cons ?_ (StepsRI.cons ?_ (StepsRI.cons ?_ (StepsRI.cons ?_ (StepsRI.cons ?_ (StepsRI.cons ?_ (StepsRI.cons ?_ (StepsRI.cons ?_ (StepsRI.cons ?_ (StepsRI.cons ?_ (StepsRI.cons ?_ (StepsRI.nil))))))))))))))
  all_goals intro lQ b W hI hUN hED KQ hKQ
  ·have hg:=(hI.vo 14)
   refine wp_load_row 28 _ rfl (w.heap.size) ((hI.fr.same 2 (by decide)).trans g2) 28 _ (0,0) _ hg Tryz.underlying28 rfl (by kernel_rfl) ?_
   exact hKQ.out _ _ (hI.pu 0 25 hz hUN HBB stb (Below.refl _ _) rfl)
  ·have f0:=hI.ge 0 hED
   replace f0:aT b 25=_:=f0
   refine opw_c1 6 25 Tryz.func6 f0 ?_
   refine (HTX.out W (HCB.out W hI.bel)).mono ?_
   rintro e W2 ⟨u1,u2,u3,rfl,hk,_,hb⟩
   exact ⟨_,rfl,hKQ.out _ _ (hI.pu 1 26 hz hUN HBB stb hb ⟨u1,u2,u3,rfl,hk⟩)⟩
  ·have hg:=(hI.vo 15)
   refine wp_load_row 31 _ rfl ((w.heap.size+1)) ((hI.fr.same 3 (by decide)).trans g3) 31 _ (0,0) _ hg Tryz.underlying31 rfl (by kernel_rfl) ?_
   exact hKQ.out _ _ (hI.pu 2 27 hz hUN HBB stb (Below.refl _ _) rfl)
  ·have f0:=hI.ge 2 hED
   replace f0:aT b 27=_:=f0
   refine opw_c1 7 27 Tryz.func7 f0 ?_
   refine (toSecret_raw sc kk hh nx W).mono ?_
   rintro e W2 ⟨rfl,hb⟩
   exact ⟨_,rfl,hKQ.out _ _ (hI.pu 3 28 hz hUN HBB stb hb rfl)⟩
  ·have f0:=hI.ge1 1 4 hED hUN
   obtain ⟨u1,u2,u3,f0,o0_0⟩:=f0
   replace f0:aT b 26=_:=f0
   have f1:=hI.ge 3 hED
   replace f1:aT b 28=_:=f1
   refine opw_c2 5 26 28 Tryz.func5 f0 f1 ?_
   refine (HSP.out W u1 u2 u3 (HCB.out W hI.bel) o0_0).mono ?_
   rintro e W2 ⟨p1,f1,p2,f2,p3,f3,rfl,hk,hb⟩
   exact ⟨_,rfl,hKQ.out _ _ (hI.pu 4 29 hz hUN HBB stb hb ⟨p1,f1,p2,f2,p3,f3,rfl,hk⟩)⟩
  ·have f:=hI.ge 4 hED
   exact opw_move 29 rfl (hKQ.out _ _ (hI.pu 5 24 hz hUN HBB stb (Below.refl _ _) f))
  ·have f:=hI.ge 5 hED
   obtain ⟨p1,f1,p2,f2,p3,f3,f,o_0⟩:=f
   exact opw_extract 24 0 rfl _ _ f rfl (hKQ.out _ _ (hI.pu 6 30 hz hUN HBB stb (Below.refl _ _) ⟨p1,f1,p2,f2,p3,f3,rfl,o_0⟩))
  ·have f:=hI.ge 5 hED
   obtain ⟨p1,f1,p2,f2,p3,f3,f,o_0⟩:=f
   exact opw_extract 24 1 rfl _ _ f rfl (hKQ.out _ _ (hI.pu 7 31 hz hUN HBB stb (Below.refl _ _) rfl))
  ·have f:=hI.ge 5 hED
   obtain ⟨p1,f1,p2,f2,p3,f3,f,o_0⟩:=f
   exact opw_extract 24 2 rfl _ _ f rfl (hKQ.out _ _ (hI.pu 8 32 hz hUN HBB stb (Below.refl _ _) rfl))
  ·refine opw_value (w':=W.alloc (.cells #[.slice none 0 0,.int .i64 0,.int .i64 0,.int .i64 0,.int .i64 0,.int .i64 0,.bool false,.slice none 0 0,.slice none 0 0] 38)) (.pointer (some ⟨W.heap.size,0,none⟩)) (by kernel_rfl) ?_
   exact hKQ.out _ _ (hI.pu 9 6 hz hUN HBB stb ((Below.refl _ _).alloc (Nat.le_refl _) _) ⟨W.heap.size,rfl,heap_alloc_new W _,Nat.le_trans HBB hI.bel.size⟩)
  ·refine opw_value (w':=W.alloc (.cells #[.int .i64 0,.int .u64 0,.int .i64 0,.int .i64 0] 39)) (.pointer (some ⟨W.heap.size,0,none⟩)) (by kernel_rfl) ?_
   exact hKQ.out _ _ (hI.pu 10 7 hz hUN HBB stb ((Below.refl _ _).alloc (Nat.le_refl _) _) ⟨W.heap.size,rfl,heap_alloc_new W _,Nat.le_trans HBB hI.bel.size⟩)
  ·obtain ⟨g,fb,hgb,hge⟩:=hI.ge1 9 11 hED hUN
   have f:=hI.ge 6 hED
   obtain ⟨p1,f1,p2,f2,p3,f3,f,o_0⟩:=f
   refine wp_store_row 38 _ _ rfl g _ fb f 38 _ hgb (by kernel_rfl) rfl (by simp [Value.oneCell']) ?_
   have ht:=setRow_touch W g #[.slice p1 m f1,.int .i64 z.num,.int .i64 z.base,.int .i64 z.tm,.int .i64 z.next,.int .i64 z.scope,.bool z.ind,.slice p2 n f2,.slice p3 r f3]
   exact hKQ.out _ _ (hI.storel 11 (fun j hj=>by
     rcases List.mem_cons.1 hj with rfl | hj
     ·exact edge hED 9 (by kernel_rfl)
     rcases List.mem_singleton.1 hj with rfl
     exact edge hED 4 (by kernel_rfl)) (hI.bel.trans (ht.below hge (Nat.le_trans HBB hI.bel.size))) (sg5_st11 a1 n1 c1 a2 n2 c2 a3 n3 c3 x sc kk hh nx z m n r t1 t2 t3 t4 cd w.heap.size (w2.heap.size) hgb ht hge hI.cl hUN (fun j hj=>by
     rcases List.mem_cons.1 hj with rfl | hj
     ·exact edge hED 9 (by kernel_rfl)
     rcases List.mem_singleton.1 hj with rfl
     exact edge hED 4 (by kernel_rfl))) ⟨g,p1,f1,p2,f2,p3,f3,fb,(setRow_heap W g _ _ _ _ hgb),hge,o_0.touched hgb (by decide) (by decide) ht⟩)
  ·obtain ⟨g,fb,hgb,hge⟩:=hI.ge1 10 12 hED hUN
   have f:=hI.ge 7 hED
   refine wp_store_row 39 _ _ rfl g _ fb f 39 _ hgb (by kernel_rfl) rfl (by simp [Value.oneCell']) ?_
   have ht:=setRow_touch W g #[.int .i64 t1,.int .u64 t2,.int .i64 t3,.int .i64 t4]
   exact hKQ.out _ _ (hI.storel 12 (fun j hj=>by
     rcases List.mem_cons.1 hj with rfl | hj
     ·exact edge hED 10 (by kernel_rfl)
     rcases List.mem_singleton.1 hj with rfl
     exact edge hED 4 (by kernel_rfl)) (hI.bel.trans (ht.below hge (Nat.le_trans HBB hI.bel.size))) (sg5_st12 a1 n1 c1 a2 n2 c2 a3 n3 c3 x sc kk hh nx z m n r t1 t2 t3 t4 cd w.heap.size (w2.heap.size) hgb ht hge hI.cl hUN (fun j hj=>by
     rcases List.mem_cons.1 hj with rfl | hj
     ·exact edge hED 10 (by kernel_rfl)
     rcases List.mem_singleton.1 hj with rfl
     exact edge hED 4 (by kernel_rfl))) ⟨g,fb,(setRow_heap W g _ _ _ _ hgb),hge⟩)
  ·have f:=hI.ge 8 hED
   exact opw_assign 32 rfl (hKQ.out _ _ (hI.pu 13 8 hz hUN HBB stb (Below.refl _ _) f))
 ·intro b W hf hb F
  clear stb
  obtain ⟨gs,p1,f1,p2,f2,p3,f3,eB,hX,hXge,hA⟩:=F 11 (od rfl) rfl
  obtain ⟨gt,eD,hY,hYge⟩:=F 12 (od rfl) rfl
  replace eB:aT b 6=_:=eB
  replace eD:aT b 7=_:=eD
  have eC:=F 13 (od rfl) rfl
  replace eC:aT b 8=_:=eC
  rw [hf.eq]
  simp only [puts,Act.put,List.setIfInBounds_toArray,List.set_cons_zero,List.set_cons_succ,eB,eD,eC]
  clear hf F
  clear eB eD eC
  generalize aT b=AT
  clear b
  obtain ⟨w3,hW⟩:∃ w3,w3=W:=⟨_,rfl⟩
  subst hW
  have HB3:Hid (Below w.heap.size w w3):=HCB.out w3 hb
  have F3:Hid (FrL w3 [(w.heap.size,#[.slice a1 n1 c1,.int .i64 x.num,.int .i64 x.base,.int .i64 x.tm,.int .i64 x.next,.int .i64 x.scope,.bool x.ind,.slice a2 n2 c2,.slice a3 n3 c3],28),(w.heap.size+1,#[.int .i64 sc,.int .u64 kk,.int .i64 hh,.int .i64 nx],31),(gs,#[.slice p1 m f1,.int .i64 z.num,.int .i64 z.base,.int .i64 z.tm,.int .i64 z.next,.int .i64 z.scope,.bool z.ind,.slice p2 n f2,.slice p3 r f3],38),(gt,#[.int .i64 t1,.int .u64 t2,.int .i64 t3,.int .i64 t4],39)] w3):=⟨Below.refl _ _,fun p hp=>by
   have h1:=F2.out.on hb
   simp only [List.mem_cons,List.not_mem_nil,or_false] at hp
   rcases hp with rfl | rfl | rfl | rfl
   ·exact h1.all _ (by simp)
   ·exact h1.all _ (by simp)
   ·exact hX
   ·exact hY⟩
  have HS3:Hid (AgS w3 p1 m f1 p2 n f2 p3 r f3 z):=hA
  have hgs:gs<w3.heap.size:=(Array.getElem?_eq_some_iff.1 hX).1
  have hgt:gt<w3.heap.size:=(Array.getElem?_eq_some_iff.1 hY).1
  have hw1:w.heap.size+1<w3.heap.size:=(Array.getElem?_eq_some_iff.1 (F3.out.all (w.heap.size+1,#[.int .i64 sc,.int .u64 kk,.int .i64 hh,.int .i64 nx],31) (by simp))).1
  clear hb hX hXge hY hYge hA F2 HCB HBB
  go_wp2_with (refine wpList_load_row rfl 28 _ rfl (w.heap.size) rfl 28 #[.slice a1 n1 c1,.int .i64 x.num,.int .i64 x.base,.int .i64 x.tm,.int .i64 x.next,.int .i64 x.scope,.bool x.ind,.slice a2 n2 c2,.slice a3 n3 c3] (0,0) _ (F3.out.all (w.heap.size,#[.slice a1 n1 c1,.int .i64 x.num,.int .i64 x.base,.int .i64 x.tm,.int .i64 x.next,.int .i64 x.scope,.bool x.ind,.slice a2 n2 c2,.slice a3 n3 c3],28) (by simp)) Tryz.underlying28 rfl (by kernel_rfl) ?_)
  refine (HTX.out _ (HB3.out.trans (F3.out.below.mono HB3.out.size))).mono ?_
  rintro e w4 ⟨b1,b2,b3,rfl,hk,⟨vx,slx,pvx,vsx,ho,hl⟩,hb⟩
  obtain ⟨w5,hw⟩:∃ w5,w5=w4.alloc (.cells #[.slice b1 n1 n1,.int .i64 x.num,.int .i64 x.base,.int .i64 x.tm,.int .i64 x.next,.int .i64 x.scope,.bool x.ind,.slice b2 n2 n2,.slice b3 n3 n3] 38):=⟨_,rfl⟩
  have hb2:Below w4.heap.size w4 w5:=by rw [hw]; exact (Below.refl _ _).alloc (Nat.le_refl _) _
  have hx:w5.heap[w4.heap.size]? = some (.cells #[.slice b1 n1 n1,.int .i64 x.num,.int .i64 x.base,.int .i64 x.tm,.int .i64 x.next,.int .i64 x.scope,.bool x.ind,.slice b2 n2 n2,.slice b3 n3 n3] 38 (0,0)):=by rw [hw]; exact heap_alloc_new w4 _
  have hb3:=hb.trans (hb2.mono hb.size)
  have F5:Hid (_):=(F3.out.on hb3).add (w4.heap.size,#[.slice b1 n1 n1,.int .i64 x.num,.int .i64 x.base,.int .i64 x.tm,.int .i64 x.next,.int .i64 x.scope,.bool x.ind,.slice b2 n2 n2,.slice b3 n3 n3],38) hx
  have KX5:Hid (_):=hk.kept hb2
  have OX5:Hid (_):=ho.below hb2
  have HIX:Hid (_):=ho.inC
  have HLX:Hid (∀ j,j<n2→(slx j).2.1≤1048576):=hl
  have hs4:=hb.size
  have hs5:w4.heap.size<w5.heap.size:=(Array.getElem?_eq_some_iff.1 hx).1
  have HW:Hid (_):=hw
  clear hb hb2 hb3 hx hk ho hl hw F3
  go_upto_region 7 with fail
  rw [← HW.out]
  clear HW
  have HCB:Hid (∀ W,Below w5.heap.size w5 W→Below w.heap.size w W):=fun W hW=>HB3.out.trans ((F5.out.below.trans (hW.mono F5.out.below.size)).mono HB3.out.size)
  have HBB:w5.heap.size≤w5.heap.size:=Nat.le_refl _
  have HKX:Hid (∀ W,Below w5.heap.size w5 W→CrG W b1 n1 b2 n2 b3 n3 x):=fun W hW=>KX5.out.kept hW
  have stb:=sg7_stb a1 n1 c1 a2 n2 c2 a3 n3 c3 x sc kk hh nx z m n r t1 t2 t3 t4 cd b1 b2 b3 w4.heap.size w.heap.size (w5.heap.size)
  refine wp_region_ri (sg7 a1 n1 c1 a2 n2 c2 a3 n3 c3 x sc kk hh nx z m n r t1 t2 t3 t4 cd b1 b2 b3 w4.heap.size w.heap.size (w5.heap.size)) [10,11,12,35,36,37,38,39,40,41,42] (w5.heap.size) (fun a0=>a0.tmps.size=128∧aT a0 3=.pointer (some ⟨(w.heap.size+1),0,none⟩)∧aT a0 9=.pointer (some ⟨w4.heap.size,0,none⟩)) (by kernel_rfl) rfl (by kernel_rfl) rfl ⟨rfl,rfl,rfl⟩ stb ?_ ?_ ?_
  ·exact vt2 (m:=13) (⟨(F5.out.all (w4.heap.size,#[.slice b1 n1 n1,.int .i64 x.num,.int .i64 x.base,.int .i64 x.tm,.int .i64 x.next,.int .i64 x.scope,.bool x.ind,.slice b2 n2 n2,.slice b3 n3 n3],38) (by simp)),hs5⟩) (⟨(F5.out.all (w.heap.size+1,#[.int .i64 sc,.int .u64 kk,.int .i64 hh,.int .i64 nx],31) (by simp)),(Array.getElem?_eq_some_iff.1 (F5.out.all (w.heap.size+1,#[.int .i64 sc,.int .u64 kk,.int .i64 hh,.int .i64 nx],31) (by simp))).1⟩)
  ·rintro a0 ⟨hz,g3,g9⟩
   refine StepsRI.cons ?_ (StepsRI.cons ?_ (StepsRI.cons ?_ (StepsRI.cons ?_ (StepsRI.cons ?_ (StepsRI.cons ?_ (StepsRI.cons ?_ (StepsRI.cons ?_ (StepsRI.cons ?_ (StepsRI.cons ?_ (StepsRI.cons ?_ (StepsRI.cons ?_ (StepsRI.cons ?_ (StepsRI.nil)))))))))))))
   all_goals intro lQ b W hI hUN hED KQ hKQ
   ·have hg:=(hI.vo 13).1
    refine wp_load_row 38 _ rfl (w4.heap.size) ((hI.fr.same 9 (by decide)).trans g9) 38 _ (0,0) _ hg Tryz.underlying38 rfl (by kernel_rfl) ?_
    exact hKQ.out _ _ (hI.pu 0 36 hz hUN HBB stb (Below.refl _ _) rfl)
   ·have hg:=(hI.vo 14).1
    refine wp_load_row 31 _ rfl ((w.heap.size+1)) ((hI.fr.same 3 (by decide)).trans g3) 31 _ (0,0) _ hg Tryz.underlying31 rfl (by kernel_rfl) ?_
    exact hKQ.out _ _ (hI.pu 1 37 hz hUN HBB stb (Below.refl _ _) rfl)
   ·have f0:=hI.ge 1 hED
    replace f0:aT b 37=_:=f0
    refine opw_c1 7 37 Tryz.func7 f0 ?_
    refine (toSecret_raw sc kk hh nx W).mono ?_
    rintro e W2 ⟨rfl,hb⟩
    exact ⟨_,rfl,hKQ.out _ _ (hI.pu 2 38 hz hUN HBB stb hb rfl)⟩
   ·have f0:=hI.ge 0 hED
    replace f0:aT b 36=_:=f0
    have f1:=hI.ge 2 hED
    replace f1:aT b 38=_:=f1
    refine opw_c2 8 36 38 Tryz.func8 f0 f1 ?_
    refine (HIM.out W b1 b2 b3 (HCB.out W hI.bel) (HKX.out W hI.bel)).mono ?_
    rintro e W2 ⟨p1,f1,p2,f2,p3,f3,rfl,hk,hb⟩
    exact ⟨_,rfl,hKQ.out _ _ (hI.pu 3 39 hz hUN HBB stb hb ⟨p1,f1,p2,f2,p3,f3,rfl,hk.lower (Nat.le_trans HBB hI.bel.size)⟩)⟩
   ·have f:=hI.ge 3 hED
    exact opw_move 39 rfl (hKQ.out _ _ (hI.pu 4 35 hz hUN HBB stb (Below.refl _ _) f))
   ·have f:=hI.ge 4 hED
    obtain ⟨p1,f1,p2,f2,p3,f3,f,o_0⟩:=f
    exact opw_extract 35 0 rfl _ _ f rfl (hKQ.out _ _ (hI.pu 5 40 hz hUN HBB stb (Below.refl _ _) ⟨p1,f1,p2,f2,p3,f3,rfl,o_0⟩))
   ·have f:=hI.ge 4 hED
    obtain ⟨p1,f1,p2,f2,p3,f3,f,o_0⟩:=f
    exact opw_extract 35 1 rfl _ _ f rfl (hKQ.out _ _ (hI.pu 6 41 hz hUN HBB stb (Below.refl _ _) rfl))
   ·have f:=hI.ge 4 hED
    obtain ⟨p1,f1,p2,f2,p3,f3,f,o_0⟩:=f
    exact opw_extract 35 2 rfl _ _ f rfl (hKQ.out _ _ (hI.pu 7 42 hz hUN HBB stb (Below.refl _ _) rfl))
   ·refine opw_value (w':=W.alloc (.cells #[.slice none 0 0,.int .i64 0,.int .i64 0,.int .i64 0,.int .i64 0,.int .i64 0,.bool false,.slice none 0 0,.slice none 0 0] 38)) (.pointer (some ⟨W.heap.size,0,none⟩)) (by kernel_rfl) ?_
    exact hKQ.out _ _ (hI.pu 8 10 hz hUN HBB stb ((Below.refl _ _).alloc (Nat.le_refl _) _) ⟨W.heap.size,rfl,heap_alloc_new W _,Nat.le_trans HBB hI.bel.size⟩)
   ·refine opw_value (w':=W.alloc (.cells #[.int .i64 0,.int .u64 0,.int .i64 0,.int .i64 0] 39)) (.pointer (some ⟨W.heap.size,0,none⟩)) (by kernel_rfl) ?_
    exact hKQ.out _ _ (hI.pu 9 11 hz hUN HBB stb ((Below.refl _ _).alloc (Nat.le_refl _) _) ⟨W.heap.size,rfl,heap_alloc_new W _,Nat.le_trans HBB hI.bel.size⟩)
   ·obtain ⟨g,fb,hgb,hge⟩:=hI.ge1 8 10 hED hUN
    have f:=hI.ge 5 hED
    obtain ⟨p1,f1,p2,f2,p3,f3,f,o_0⟩:=f
    refine wp_store_row 38 _ _ rfl g _ fb f 38 _ hgb (by kernel_rfl) rfl (by simp [Value.oneCell']) ?_
    have ht:=setRow_touch W g #[.slice p1 m f1,.int .i64 z.num,.int .i64 z.base,.int .i64 z.tm,.int .i64 z.next,.int .i64 z.scope,.bool z.ind,.slice p2 n f2,.slice p3 r f3]
    exact hKQ.out _ _ (hI.store 10 (fun j hj=>by
      rcases List.mem_singleton.1 hj with rfl
      exact edge hED 8 (by kernel_rfl)) (hI.bel.trans (ht.below hge (Nat.le_trans HBB hI.bel.size))) (sg7_st10 a1 n1 c1 a2 n2 c2 a3 n3 c3 x sc kk hh nx z m n r t1 t2 t3 t4 cd b1 b2 b3 w4.heap.size w.heap.size (w5.heap.size) hgb ht hge) ⟨g,p1,f1,p2,f2,p3,f3,fb,(setRow_heap W g _ _ _ _ hgb),hge,o_0.touched hgb (by decide) (by decide) ht⟩)
   ·obtain ⟨g,fb,hgb,hge⟩:=hI.ge1 9 11 hED hUN
    have f:=hI.ge 6 hED
    refine wp_store_row 39 _ _ rfl g _ fb f 39 _ hgb (by kernel_rfl) rfl (by simp [Value.oneCell']) ?_
    have ht:=setRow_touch W g #[.int .i64 t1,.int .u64 t2,.int .i64 t3,.int .i64 t4]
    exact hKQ.out _ _ (hI.store 11 (fun j hj=>by
      rcases List.mem_singleton.1 hj with rfl
      exact edge hED 9 (by kernel_rfl)) (hI.bel.trans (ht.below hge (Nat.le_trans HBB hI.bel.size))) (sg7_st11 a1 n1 c1 a2 n2 c2 a3 n3 c3 x sc kk hh nx z m n r t1 t2 t3 t4 cd b1 b2 b3 w4.heap.size w.heap.size (w5.heap.size) hgb ht hge) ⟨g,fb,(setRow_heap W g _ _ _ _ hgb),hge⟩)
   ·have f:=hI.ge 7 hED
    exact opw_assign 42 rfl (hKQ.out _ _ (hI.pu 12 12 hz hUN HBB stb (Below.refl _ _) f))
  ·intro b W hf hb F
   clear stb
   obtain ⟨gx,g1,h1,g2,h2,g3,h3,eB,hX,hXge,hA⟩:=F 10 (od rfl) rfl
   obtain ⟨gy,eD,hY,hYge⟩:=F 11 (od rfl) rfl
   replace eB:aT b 10=_:=eB
   replace eD:aT b 11=_:=eD
   have eC:=F 12 (od rfl) rfl
   replace eC:aT b 12=_:=eC
   rw [hf.eq]
   simp only [puts,Act.put,List.setIfInBounds_toArray,List.set_cons_zero,List.set_cons_succ,eB,eD,eC]
   clear hf F
   clear eB eD eC
   generalize aT b=AT
   clear b
   obtain ⟨w6,hW⟩:∃ w6,w6=W:=⟨_,rfl⟩
   subst hW
   have F6:Hid (_):=((F5.out.on hb).add (gy,#[.int .i64 t1,.int .u64 t2,.int .i64 t3,.int .i64 t4],39) hY).add (gx,#[.slice g1 m h1,.int .i64 z.num,.int .i64 z.base,.int .i64 z.tm,.int .i64 z.next,.int .i64 z.scope,.bool z.ind,.slice g2 n h2,.slice g3 r h3],38) hX
   obtain ⟨slg,hav,vg,pvg,vsg,hog⟩:=hA.ex
   have HIG:Hid (InC (fun i=>w5.heap.size≤i∧i<w6.heap.size∧i≠gx∧i≠gy) g1 m g2 n g3 slg):=hog.inC2 hX hY (by decide) (by decide)
   have HLG:Hid (∀ j,j<n→(slg j).2.1≤1048576):=fun j hj=>by rw [hav.hl j hj]; exact (HOZ.out.2.2.2.1 j hj).1
   have AV6:Hid (_):=hav
   have OG6:Hid (_):=hog
   have KX6:Hid (_):=KX5.out.kept hb
   have OX6:Hid (_):=OX5.out.below hb
   have hgx:w5.heap.size≤gx:=hXge
   have hgy:w5.heap.size≤gy:=hYge
   have hs6:=hb.size
   clear hb hX hY hXge hYge hA hav hog F5 KX5 OX5 HCB HBB HKX
   go_wp2_with (first | (refine wpList_load_row rfl 38 _ rfl (gx) rfl 38 #[.slice g1 m h1,.int .i64 z.num,.int .i64 z.base,.int .i64 z.tm,.int .i64 z.next,.int .i64 z.scope,.bool z.ind,.slice g2 n h2,.slice g3 r h3] (0,0) _ (F6.out.all (gx,#[.slice g1 m h1,.int .i64 z.num,.int .i64 z.base,.int .i64 z.tm,.int .i64 z.next,.int .i64 z.scope,.bool z.ind,.slice g2 n h2,.slice g3 r h3],38) (by simp)) Tryz.underlying38 rfl (by kernel_rfl) ?_) | (refine wpList_load_row rfl 38 _ rfl (gs) rfl 38 #[.slice p1 m f1,.int .i64 z.num,.int .i64 z.base,.int .i64 z.tm,.int .i64 z.next,.int .i64 z.scope,.bool z.ind,.slice p2 n f2,.slice p3 r f3] (0,0) _ (F6.out.all (gs,#[.slice p1 m f1,.int .i64 z.num,.int .i64 z.base,.int .i64 z.tm,.int .i64 z.next,.int .i64 z.scope,.bool z.ind,.slice p2 n f2,.slice p3 r f3],38) (by simp)) Tryz.underlying38 rfl (by kernel_rfl) ?_))
   refine (eqCrl_raw g1 m h1 g2 n h2 g3 r h3 p1 f1 p2 f2 p3 f3 z _ (AV6.out.crs HOZ.out) ((HS3.out.kept F6.out.below).crs HOZ.out) HOZ.out.2.2.2.2).mono ?_
   rintro e w7 ⟨rfl,hb⟩
   have F7:Hid (_):=F6.out.on hb
   have KX7:Hid (_):=KX6.out.kept hb
   have OX7:Hid (_):=OX6.out.below hb
   have AV7:Hid (_):=AV6.out.kept hb
   have OG7:Hid (_):=OG6.out.below hb
   clear F6 KX6 OX6 AV6 OG6
   clear hb
   have tc:(cd != cd)=false:=by simp
   have p_0:w7.cell? ⟨gy,0,none⟩=some (.int .i64 t1):=(cell_of_row _ _ 0 _ 39 (0,0) (F7.out.all (gy,#[.int .i64 t1,.int .u64 t2,.int .i64 t3,.int .i64 t4],39) (by simp))).trans rfl
   have p_1:w7.cell? ⟨gy,1,none⟩=some (.int .u64 t2):=(cell_of_row _ _ 1 _ 39 (0,0) (F7.out.all (gy,#[.int .i64 t1,.int .u64 t2,.int .i64 t3,.int .i64 t4],39) (by simp))).trans rfl
   have p_2:w7.cell? ⟨gy,2,none⟩=some (.int .i64 t3):=(cell_of_row _ _ 2 _ 39 (0,0) (F7.out.all (gy,#[.int .i64 t1,.int .u64 t2,.int .i64 t3,.int .i64 t4],39) (by simp))).trans rfl
   have p_3:w7.cell? ⟨gy,3,none⟩=some (.int .i64 t4):=(cell_of_row _ _ 3 _ 39 (0,0) (F7.out.all (gy,#[.int .i64 t1,.int .u64 t2,.int .i64 t3,.int .i64 t4],39) (by simp))).trans rfl
   have q_0:w7.cell? ⟨gt,0,none⟩=some (.int .i64 t1):=(cell_of_row _ _ 0 _ 39 (0,0) (F7.out.all (gt,#[.int .i64 t1,.int .u64 t2,.int .i64 t3,.int .i64 t4],39) (by simp))).trans rfl
   have q_1:w7.cell? ⟨gt,1,none⟩=some (.int .u64 t2):=(cell_of_row _ _ 1 _ 39 (0,0) (F7.out.all (gt,#[.int .i64 t1,.int .u64 t2,.int .i64 t3,.int .i64 t4],39) (by simp))).trans rfl
   have q_2:w7.cell? ⟨gt,2,none⟩=some (.int .i64 t3):=(cell_of_row _ _ 2 _ 39 (0,0) (F7.out.all (gt,#[.int .i64 t1,.int .u64 t2,.int .i64 t3,.int .i64 t4],39) (by simp))).trans rfl
   have q_3:w7.cell? ⟨gt,3,none⟩=some (.int .i64 t4):=(cell_of_row _ _ 3 _ 39 (0,0) (F7.out.all (gt,#[.int .i64 t1,.int .u64 t2,.int .i64 t3,.int .i64 t4],39) (by simp))).trans rfl
   go_wp2_with fail
   refine (eqSecret_raw t1 t2 t3 t4 _).mono ?_
   rintro e w10 ⟨rfl,hb⟩
   have F10:Hid (_):=F7.out.on hb
   have KX10:Hid (_):=KX7.out.kept hb
   have OX10:Hid (_):=OX7.out.below hb
   have AV10:Hid (_):=AV7.out.kept hb
   have OG10:Hid (_):=OG7.out.below hb
   clear F7 KX7 OX7 AV7 OG7
   clear hb p_0 p_1 p_2 p_3 q_0 q_1 q_2 q_3
   have HCB:Hid (∀ W,Below w10.heap.size w10 W→Below w.heap.size w W):=fun W hW=>HB3.out.trans ((F10.out.below.trans (hW.mono F10.out.below.size)).mono HB3.out.size)
   have HBB:w10.heap.size≤w10.heap.size:=Nat.le_refl _
   have HKX:Hid (∀ W,Below w10.heap.size w10 W→CrG W b1 n1 b2 n2 b3 n3 x):=fun W hW=>KX10.out.kept hW
   go_upto_region 10 with fail
   have stb:=sg10_stb a1 n1 c1 a2 n2 c2 a3 n3 c3 x sc kk hh nx b1 b2 b3 w4.heap.size w.heap.size (w10.heap.size)
   refine wp_region_ri (sg10 a1 n1 c1 a2 n2 c2 a3 n3 c3 x sc kk hh nx b1 b2 b3 w4.heap.size w.heap.size (w10.heap.size)) [58,59,60,61,62] (w10.heap.size) (fun a0=>a0.tmps.size=128∧aT a0 2=.pointer (some ⟨w.heap.size,0,none⟩)∧aT a0 9=.pointer (some ⟨w4.heap.size,0,none⟩)) (by kernel_rfl) rfl (by kernel_rfl) rfl ⟨rfl,rfl,rfl⟩ stb ?_ ?_ ?_
   ·exact vt2 (m:=5) ((F10.out.all (w4.heap.size,#[.slice b1 n1 n1,.int .i64 x.num,.int .i64 x.base,.int .i64 x.tm,.int .i64 x.next,.int .i64 x.scope,.bool x.ind,.slice b2 n2 n2,.slice b3 n3 n3],38) (by simp))) ((F10.out.all (w.heap.size,#[.slice a1 n1 c1,.int .i64 x.num,.int .i64 x.base,.int .i64 x.tm,.int .i64 x.next,.int .i64 x.scope,.bool x.ind,.slice a2 n2 c2,.slice a3 n3 c3],28) (by simp)))
   ·rintro a0 ⟨hz,g2,g9⟩
    refine StepsRI.cons ?_ (StepsRI.cons ?_ (StepsRI.cons ?_ (StepsRI.cons ?_ (StepsRI.cons ?_ (StepsRI.nil)))))
    all_goals intro lQ b W hI hUN hED KQ hKQ
    ·have hg:=(hI.vo 5)
     refine wp_load_row 38 _ rfl (w4.heap.size) ((hI.fr.same 9 (by decide)).trans g9) 38 _ (0,0) _ hg Tryz.underlying38 rfl (by kernel_rfl) ?_
     exact hKQ.out _ _ (hI.pu 0 58 hz hUN HBB stb (Below.refl _ _) rfl)
    ·have hg:=(hI.vo 6)
     refine wp_load_row 28 _ rfl (w.heap.size) ((hI.fr.same 2 (by decide)).trans g2) 28 _ (0,0) _ hg Tryz.underlying28 rfl (by kernel_rfl) ?_
     exact hKQ.out _ _ (hI.pu 1 59 hz hUN HBB stb (Below.refl _ _) rfl)
    ·have f0:=hI.ge 1 hED
     replace f0:aT b 59=_:=f0
     refine opw_c1 6 59 Tryz.func6 f0 ?_
     refine (HTX.out W (HCB.out W hI.bel)).mono ?_
     rintro e W2 ⟨s1,s2,s3,rfl,hk,_,hb⟩
     exact ⟨_,rfl,hKQ.out _ _ (hI.pu 2 60 hz hUN HBB stb hb ⟨s1,s2,s3,rfl,hk⟩)⟩
    ·have f0:=hI.ge 0 hED
     replace f0:aT b 58=_:=f0
     have f1:=hI.ge 2 hED
     obtain ⟨s1,s2,s3,f1,o1_0⟩:=f1
     replace f1:aT b 60=_:=f1
     refine opw_c2 9 58 60 Tryz.func9 f0 f1 ?_
     refine (eqCrl_raw b1 n1 n1 b2 n2 n2 b3 n3 n3 s1 n1 s2 n2 s3 n3 x W (HKX.out W hI.bel).crs o1_0.crs HZX.out.2.2.2.2).mono ?_
     rintro e W2 ⟨rfl,hb⟩
     exact ⟨_,rfl,hKQ.out _ _ (hI.pu 3 61 hz hUN HBB stb hb rfl)⟩
    ·have f:=hI.ge 3 hED
     replace f:aT b 61=_:=f
     have f2:b.tmps[61]?.getD undef=.bool true:=by simpa [aT] using f
     exact opw_value (.bool false) (by simp [execOp,Act.eval,f2,go_sem]) (hKQ.out _ _ (hI.pu 4 62 hz hUN HBB stb (Below.refl _ _) rfl))
   ·intro b W hf hb F
    clear stb
    have eb:=F 4 (od rfl) rfl
    replace eb:aT b 62=_:=eb
    rw [hf.eq]
    simp only [puts,Act.put,List.setIfInBounds_toArray,List.set_cons_zero,List.set_cons_succ,eb]
    clear hf F
    clear eb
    generalize aT b=AT
    clear b
    obtain ⟨w11,hW⟩:∃ w11,w11=W:=⟨_,rfl⟩
    subst hW
    have F11:Hid (_):=F10.out.on hb
    have KX11:Hid (_):=KX10.out.kept hb
    have OX11:Hid (_):=OX10.out.below hb
    have AV11:Hid (_):=AV10.out.kept hb
    have OG11:Hid (_):=OG10.out.below hb
    clear F10 KX10 OX10 AV10 OG10
    clear hb HCB HKX HBB
    go_wp2_with (refine wpList_load_row rfl 38 _ rfl (w4.heap.size) rfl 38 #[.slice b1 n1 n1,.int .i64 x.num,.int .i64 x.base,.int .i64 x.tm,.int .i64 x.next,.int .i64 x.scope,.bool x.ind,.slice b2 n2 n2,.slice b3 n3 n3] (0,0) _ (F11.out.all (w4.heap.size,#[.slice b1 n1 n1,.int .i64 x.num,.int .i64 x.base,.int .i64 x.tm,.int .i64 x.next,.int .i64 x.scope,.bool x.ind,.slice b2 n2 n2,.slice b3 n3 n3],38) (by simp)) Tryz.underlying38 rfl (by kernel_rfl) ?_)
    refine (markCrl_raw w3.heap.size (fun i=>w3.heap.size≤i∧i<w4.heap.size) b1 n1 n1 b2 n2 n2 b3 n3 n3 x vx slx pvx vsx x.sig 1 _ OX11.out HIX.out HZX.out HLX.out (by decide) (by decide)).mono ?_
    rintro e w12 ⟨rfl,_,ht,hkb⟩
    have F12:Hid (_):=F11.out.mark ht (fun i hi=>by have:=hi.1; omega) (by simp; omega)
    have AV12:Hid (_):=AV11.out.low ht (fun i hi=>by have:=hi.2; omega)
    have OG12:Hid (_):=OG11.out.low ht (fun i hi=>by have:=hi.2; omega)
    have hs12:=ht.size
    clear ht F11 KX11 OX11 AV11 OG11
    obtain ⟨kx,hkx⟩:∃ kx:Int,kx=((nxQ slx (1+2 * n1) n2+n3:Nat):Int):=⟨_,rfl⟩
    have hkxn:¬ (kx<0):=by omega
    rw [← hkx]
    have hkxd:decide (kx<0)=false:=by simp; omega
    clear hkx hkb
    have p_0:w12.cell? ⟨gx,0,none⟩=some (.slice g1 m h1):=(cell_of_row _ _ 0 _ 38 (0,0) (F12.out.all (gx,#[.slice g1 m h1,.int .i64 z.num,.int .i64 z.base,.int .i64 z.tm,.int .i64 z.next,.int .i64 z.scope,.bool z.ind,.slice g2 n h2,.slice g3 r h3],38) (by simp))).trans rfl
    have p_1:w12.cell? ⟨gx,1,none⟩=some (.int .i64 z.num):=(cell_of_row _ _ 1 _ 38 (0,0) (F12.out.all (gx,#[.slice g1 m h1,.int .i64 z.num,.int .i64 z.base,.int .i64 z.tm,.int .i64 z.next,.int .i64 z.scope,.bool z.ind,.slice g2 n h2,.slice g3 r h3],38) (by simp))).trans rfl
    have p_2:w12.cell? ⟨gx,2,none⟩=some (.int .i64 z.base):=(cell_of_row _ _ 2 _ 38 (0,0) (F12.out.all (gx,#[.slice g1 m h1,.int .i64 z.num,.int .i64 z.base,.int .i64 z.tm,.int .i64 z.next,.int .i64 z.scope,.bool z.ind,.slice g2 n h2,.slice g3 r h3],38) (by simp))).trans rfl
    have p_3:w12.cell? ⟨gx,3,none⟩=some (.int .i64 z.tm):=(cell_of_row _ _ 3 _ 38 (0,0) (F12.out.all (gx,#[.slice g1 m h1,.int .i64 z.num,.int .i64 z.base,.int .i64 z.tm,.int .i64 z.next,.int .i64 z.scope,.bool z.ind,.slice g2 n h2,.slice g3 r h3],38) (by simp))).trans rfl
    have p_4:w12.cell? ⟨gx,4,none⟩=some (.int .i64 z.next):=(cell_of_row _ _ 4 _ 38 (0,0) (F12.out.all (gx,#[.slice g1 m h1,.int .i64 z.num,.int .i64 z.base,.int .i64 z.tm,.int .i64 z.next,.int .i64 z.scope,.bool z.ind,.slice g2 n h2,.slice g3 r h3],38) (by simp))).trans rfl
    have p_5:w12.cell? ⟨gx,5,none⟩=some (.int .i64 z.scope):=(cell_of_row _ _ 5 _ 38 (0,0) (F12.out.all (gx,#[.slice g1 m h1,.int .i64 z.num,.int .i64 z.base,.int .i64 z.tm,.int .i64 z.next,.int .i64 z.scope,.bool z.ind,.slice g2 n h2,.slice g3 r h3],38) (by simp))).trans rfl
    have p_6:w12.cell? ⟨gx,6,none⟩=some (.bool z.ind):=(cell_of_row _ _ 6 _ 38 (0,0) (F12.out.all (gx,#[.slice g1 m h1,.int .i64 z.num,.int .i64 z.base,.int .i64 z.tm,.int .i64 z.next,.int .i64 z.scope,.bool z.ind,.slice g2 n h2,.slice g3 r h3],38) (by simp))).trans rfl
    have p_7:w12.cell? ⟨gx,7,none⟩=some (.slice g2 n h2):=(cell_of_row _ _ 7 _ 38 (0,0) (F12.out.all (gx,#[.slice g1 m h1,.int .i64 z.num,.int .i64 z.base,.int .i64 z.tm,.int .i64 z.next,.int .i64 z.scope,.bool z.ind,.slice g2 n h2,.slice g3 r h3],38) (by simp))).trans rfl
    have p_8:w12.cell? ⟨gx,8,none⟩=some (.slice g3 r h3):=(cell_of_row _ _ 8 _ 38 (0,0) (F12.out.all (gx,#[.slice g1 m h1,.int .i64 z.num,.int .i64 z.base,.int .i64 z.tm,.int .i64 z.next,.int .i64 z.scope,.bool z.ind,.slice g2 n h2,.slice g3 r h3],38) (by simp))).trans rfl
    have q_0:w12.cell? ⟨gs,0,none⟩=some (.slice p1 m f1):=(cell_of_row _ _ 0 _ 38 (0,0) (F12.out.all (gs,#[.slice p1 m f1,.int .i64 z.num,.int .i64 z.base,.int .i64 z.tm,.int .i64 z.next,.int .i64 z.scope,.bool z.ind,.slice p2 n f2,.slice p3 r f3],38) (by simp))).trans rfl
    have q_1:w12.cell? ⟨gs,1,none⟩=some (.int .i64 z.num):=(cell_of_row _ _ 1 _ 38 (0,0) (F12.out.all (gs,#[.slice p1 m f1,.int .i64 z.num,.int .i64 z.base,.int .i64 z.tm,.int .i64 z.next,.int .i64 z.scope,.bool z.ind,.slice p2 n f2,.slice p3 r f3],38) (by simp))).trans rfl
    have q_2:w12.cell? ⟨gs,2,none⟩=some (.int .i64 z.base):=(cell_of_row _ _ 2 _ 38 (0,0) (F12.out.all (gs,#[.slice p1 m f1,.int .i64 z.num,.int .i64 z.base,.int .i64 z.tm,.int .i64 z.next,.int .i64 z.scope,.bool z.ind,.slice p2 n f2,.slice p3 r f3],38) (by simp))).trans rfl
    have q_3:w12.cell? ⟨gs,3,none⟩=some (.int .i64 z.tm):=(cell_of_row _ _ 3 _ 38 (0,0) (F12.out.all (gs,#[.slice p1 m f1,.int .i64 z.num,.int .i64 z.base,.int .i64 z.tm,.int .i64 z.next,.int .i64 z.scope,.bool z.ind,.slice p2 n f2,.slice p3 r f3],38) (by simp))).trans rfl
    have q_4:w12.cell? ⟨gs,4,none⟩=some (.int .i64 z.next):=(cell_of_row _ _ 4 _ 38 (0,0) (F12.out.all (gs,#[.slice p1 m f1,.int .i64 z.num,.int .i64 z.base,.int .i64 z.tm,.int .i64 z.next,.int .i64 z.scope,.bool z.ind,.slice p2 n f2,.slice p3 r f3],38) (by simp))).trans rfl
    have q_5:w12.cell? ⟨gs,5,none⟩=some (.int .i64 z.scope):=(cell_of_row _ _ 5 _ 38 (0,0) (F12.out.all (gs,#[.slice p1 m f1,.int .i64 z.num,.int .i64 z.base,.int .i64 z.tm,.int .i64 z.next,.int .i64 z.scope,.bool z.ind,.slice p2 n f2,.slice p3 r f3],38) (by simp))).trans rfl
    have q_6:w12.cell? ⟨gs,6,none⟩=some (.bool z.ind):=(cell_of_row _ _ 6 _ 38 (0,0) (F12.out.all (gs,#[.slice p1 m f1,.int .i64 z.num,.int .i64 z.base,.int .i64 z.tm,.int .i64 z.next,.int .i64 z.scope,.bool z.ind,.slice p2 n f2,.slice p3 r f3],38) (by simp))).trans rfl
    have q_7:w12.cell? ⟨gs,7,none⟩=some (.slice p2 n f2):=(cell_of_row _ _ 7 _ 38 (0,0) (F12.out.all (gs,#[.slice p1 m f1,.int .i64 z.num,.int .i64 z.base,.int .i64 z.tm,.int .i64 z.next,.int .i64 z.scope,.bool z.ind,.slice p2 n f2,.slice p3 r f3],38) (by simp))).trans rfl
    have q_8:w12.cell? ⟨gs,8,none⟩=some (.slice p3 r f3):=(cell_of_row _ _ 8 _ 38 (0,0) (F12.out.all (gs,#[.slice p1 m f1,.int .i64 z.num,.int .i64 z.base,.int .i64 z.tm,.int .i64 z.next,.int .i64 z.scope,.bool z.ind,.slice p2 n f2,.slice p3 r f3],38) (by simp))).trans rfl
    go_wp2_with fail
    refine (eqCrl_raw g1 m h1 g2 n h2 g3 r h3 p1 f1 p2 f2 p3 f3 z _ (AV12.out.crs HOZ.out) ((HS3.out.kept F12.out.below).crs HOZ.out) HOZ.out.2.2.2.2).mono ?_
    rintro e w13 ⟨rfl,hb⟩
    have F13:Hid (_):=F12.out.on hb
    have AV13:Hid (_):=AV12.out.kept hb
    have OG13:Hid (_):=OG12.out.below hb
    clear F12 AV12 OG12
    have hs13:=hb.size
    clear hb p_0 p_1 p_2 p_3 p_4 p_5 p_6 p_7 p_8 q_0 q_1 q_2 q_3 q_4 q_5 q_6 q_7 q_8
    have p_0:w13.cell? ⟨gy,0,none⟩=some (.int .i64 t1):=(cell_of_row _ _ 0 _ 39 (0,0) (F13.out.all (gy,#[.int .i64 t1,.int .u64 t2,.int .i64 t3,.int .i64 t4],39) (by simp))).trans rfl
    have p_1:w13.cell? ⟨gy,1,none⟩=some (.int .u64 t2):=(cell_of_row _ _ 1 _ 39 (0,0) (F13.out.all (gy,#[.int .i64 t1,.int .u64 t2,.int .i64 t3,.int .i64 t4],39) (by simp))).trans rfl
    have p_2:w13.cell? ⟨gy,2,none⟩=some (.int .i64 t3):=(cell_of_row _ _ 2 _ 39 (0,0) (F13.out.all (gy,#[.int .i64 t1,.int .u64 t2,.int .i64 t3,.int .i64 t4],39) (by simp))).trans rfl
    have p_3:w13.cell? ⟨gy,3,none⟩=some (.int .i64 t4):=(cell_of_row _ _ 3 _ 39 (0,0) (F13.out.all (gy,#[.int .i64 t1,.int .u64 t2,.int .i64 t3,.int .i64 t4],39) (by simp))).trans rfl
    have q_0:w13.cell? ⟨gt,0,none⟩=some (.int .i64 t1):=(cell_of_row _ _ 0 _ 39 (0,0) (F13.out.all (gt,#[.int .i64 t1,.int .u64 t2,.int .i64 t3,.int .i64 t4],39) (by simp))).trans rfl
    have q_1:w13.cell? ⟨gt,1,none⟩=some (.int .u64 t2):=(cell_of_row _ _ 1 _ 39 (0,0) (F13.out.all (gt,#[.int .i64 t1,.int .u64 t2,.int .i64 t3,.int .i64 t4],39) (by simp))).trans rfl
    have q_2:w13.cell? ⟨gt,2,none⟩=some (.int .i64 t3):=(cell_of_row _ _ 2 _ 39 (0,0) (F13.out.all (gt,#[.int .i64 t1,.int .u64 t2,.int .i64 t3,.int .i64 t4],39) (by simp))).trans rfl
    have q_3:w13.cell? ⟨gt,3,none⟩=some (.int .i64 t4):=(cell_of_row _ _ 3 _ 39 (0,0) (F13.out.all (gt,#[.int .i64 t1,.int .u64 t2,.int .i64 t3,.int .i64 t4],39) (by simp))).trans rfl
    go_wp2_with fail
    refine (eqSecret_raw t1 t2 t3 t4 _).mono ?_
    rintro e w15 ⟨rfl,hb⟩
    have F15:Hid (_):=F13.out.on hb
    have AV15:Hid (_):=AV13.out.kept hb
    have OG15:Hid (_):=OG13.out.below hb
    clear F13 AV13 OG13
    have hs15:=hb.size
    clear hb hkxn hkxd p_0 p_1 p_2 p_3 q_0 q_1 q_2 q_3
    go_wp2_with (refine wpList_load_row rfl 38 _ rfl (gx) rfl 38 #[.slice g1 m h1,.int .i64 z.num,.int .i64 z.base,.int .i64 z.tm,.int .i64 z.next,.int .i64 z.scope,.bool z.ind,.slice g2 n h2,.slice g3 r h3] (0,0) _ (F15.out.all (gx,#[.slice g1 m h1,.int .i64 z.num,.int .i64 z.base,.int .i64 z.tm,.int .i64 z.next,.int .i64 z.scope,.bool z.ind,.slice g2 n h2,.slice g3 r h3],38) (by simp)) Tryz.underlying38 rfl (by kernel_rfl) ?_)
    refine (markCrl_raw w5.heap.size (fun i=>w5.heap.size≤i∧i<w6.heap.size∧i≠gx∧i≠gy) g1 m h1 g2 n h2 g3 r h3 z vg slg pvg vsg z.sig 1 _ OG15.out HIG.out HOZ.out HLG.out (by decide) (by decide)).mono ?_
    rintro e w16 ⟨rfl,ho,ht,hkb⟩
    have F16:Hid (_):=F15.out.mark ht (fun i hi=>by have:=hi.1; omega) (by simp; omega)
    have GM16:Hid (_):=ho
    clear ho ht F15 AV15 OG15
    obtain ⟨ky,hky⟩:∃ ky:Int,ky=(((nxQ slg (1+2 * m) n+r:Nat):Int)):=⟨_,rfl⟩
    have HKK:Hid ((((nxQ slg (1+2 * m) n+r:Nat):Int))=ky):=hky.symm
    have hk0:¬ (ky<0):=by omega
    rw [HKK.out]
    clear hky hkb
    have tk:(ky != ky)=false:=by simp
    go_wp2_with (refine wpList_load_row rfl 38 _ rfl (gx) rfl 38 #[.slice g1 m h1,.int .i64 z.num,.int .i64 z.base,.int .i64 z.tm,.int .i64 z.next,.int .i64 z.scope,.bool z.ind,.slice g2 n h2,.slice g3 r h3] (0,0) _ (F16.out.all (gx,#[.slice g1 m h1,.int .i64 z.num,.int .i64 z.base,.int .i64 z.tm,.int .i64 z.next,.int .i64 z.scope,.bool z.ind,.slice g2 n h2,.slice g3 r h3],38) (by simp)) Tryz.underlying38 rfl (by kernel_rfl) ?_)
    refine (heldCrl_raw w5.heap.size g1 m h1 g2 n h2 g3 r h3 z slg pvg vsg 1 _ GM16.out HOZ.out HLG.out (by decide) (by decide)).mono ?_
    rintro e w17 ⟨rfl,hb⟩
    have F17:Hid (_):=F16.out.on hb
    have GM17:Hid (_):=GM16.out.below hb
    clear F16 GM16
    clear hb
    rw [HKK.out]
    have HCB:Hid (∀ W,Below w17.heap.size w17 W→Below w.heap.size w W):=fun W hW=>HB3.out.trans ((F17.out.below.trans (hW.mono F17.out.below.size)).mono HB3.out.size)
    have HBB:w17.heap.size≤w17.heap.size:=Nat.le_refl _
    go_upto_region 24 with fail
    have stb:=sg24_stb a1 n1 c1 a2 n2 c2 a3 n3 c3 x sc kk hh nx z m n r t1 t2 t3 t4 cd w.heap.size (w17.heap.size)
    refine wp_region_ri (sg24 a1 n1 c1 a2 n2 c2 a3 n3 c3 x sc kk hh nx z m n r t1 t2 t3 t4 cd w.heap.size (w17.heap.size)) [16,17,18,96,97,98,99,100,101,102,103,104] (w17.heap.size) (fun a0=>a0.tmps.size=128∧aT a0 2=.pointer (some ⟨w.heap.size,0,none⟩)∧aT a0 3=.pointer (some ⟨(w.heap.size+1),0,none⟩)) (by kernel_rfl) rfl (by kernel_rfl) rfl ⟨rfl,rfl,rfl⟩ stb ?_ ?_ ?_
    ·exact vt2 (m:=14) ((F17.out.all (w.heap.size,#[.slice a1 n1 c1,.int .i64 x.num,.int .i64 x.base,.int .i64 x.tm,.int .i64 x.next,.int .i64 x.scope,.bool x.ind,.slice a2 n2 c2,.slice a3 n3 c3],28) (by simp))) ((F17.out.all (w.heap.size+1,#[.int .i64 sc,.int .u64 kk,.int .i64 hh,.int .i64 nx],31) (by simp)))
    ·rintro a0 ⟨hz,g2,g3⟩
     refine StepsRI.cons ?_ (StepsRI.cons ?_ (StepsRI.cons ?_ (StepsRI.cons ?_ (StepsRI.cons ?_ (StepsRI.cons ?_ (StepsRI.cons ?_ (StepsRI.cons ?_ (StepsRI.cons ?_ (StepsRI.cons ?_ (StepsRI.cons ?_ (StepsRI.cons ?_ (StepsRI.cons ?_ (StepsRI.cons ?_ (StepsRI.nil))))))))))))))
     all_goals intro lQ b W hI hUN hED KQ hKQ
     ·have hg:=(hI.vo 14)
      refine wp_load_row 28 _ rfl (w.heap.size) ((hI.fr.same 2 (by decide)).trans g2) 28 _ (0,0) _ hg Tryz.underlying28 rfl (by kernel_rfl) ?_
      exact hKQ.out _ _ (hI.pu 0 97 hz hUN HBB stb (Below.refl _ _) rfl)
     ·have f0:=hI.ge 0 hED
      replace f0:aT b 97=_:=f0
      refine opw_c1 6 97 Tryz.func6 f0 ?_
      refine (HTX.out W (HCB.out W hI.bel)).mono ?_
      rintro e W2 ⟨u1,u2,u3,rfl,hk,_,hb⟩
      exact ⟨_,rfl,hKQ.out _ _ (hI.pu 1 98 hz hUN HBB stb hb ⟨u1,u2,u3,rfl,hk⟩)⟩
     ·have hg:=(hI.vo 15)
      refine wp_load_row 31 _ rfl ((w.heap.size+1)) ((hI.fr.same 3 (by decide)).trans g3) 31 _ (0,0) _ hg Tryz.underlying31 rfl (by kernel_rfl) ?_
      exact hKQ.out _ _ (hI.pu 2 99 hz hUN HBB stb (Below.refl _ _) rfl)
     ·have f0:=hI.ge 2 hED
      replace f0:aT b 99=_:=f0
      refine opw_c1 7 99 Tryz.func7 f0 ?_
      refine (toSecret_raw sc kk hh nx W).mono ?_
      rintro e W2 ⟨rfl,hb⟩
      exact ⟨_,rfl,hKQ.out _ _ (hI.pu 3 100 hz hUN HBB stb hb rfl)⟩
     ·have f0:=hI.ge1 1 4 hED hUN
      obtain ⟨u1,u2,u3,f0,o0_0⟩:=f0
      replace f0:aT b 98=_:=f0
      have f1:=hI.ge 3 hED
      replace f1:aT b 100=_:=f1
      refine opw_c2 8 98 100 Tryz.func8 f0 f1 ?_
      refine (HIS.out W u1 u2 u3 (HCB.out W hI.bel) o0_0).mono ?_
      rintro e W2 ⟨p1,f1,p2,f2,p3,f3,rfl,hk,hb⟩
      exact ⟨_,rfl,hKQ.out _ _ (hI.pu 4 101 hz hUN HBB stb hb ⟨p1,f1,p2,f2,p3,f3,rfl,hk⟩)⟩
     ·have f:=hI.ge 4 hED
      exact opw_move 101 rfl (hKQ.out _ _ (hI.pu 5 96 hz hUN HBB stb (Below.refl _ _) f))
     ·have f:=hI.ge 5 hED
      obtain ⟨p1,f1,p2,f2,p3,f3,f,o_0⟩:=f
      exact opw_extract 96 0 rfl _ _ f rfl (hKQ.out _ _ (hI.pu 6 102 hz hUN HBB stb (Below.refl _ _) ⟨p1,f1,p2,f2,p3,f3,rfl,o_0⟩))
     ·have f:=hI.ge 5 hED
      obtain ⟨p1,f1,p2,f2,p3,f3,f,o_0⟩:=f
      exact opw_extract 96 1 rfl _ _ f rfl (hKQ.out _ _ (hI.pu 7 103 hz hUN HBB stb (Below.refl _ _) rfl))
     ·have f:=hI.ge 5 hED
      obtain ⟨p1,f1,p2,f2,p3,f3,f,o_0⟩:=f
      exact opw_extract 96 2 rfl _ _ f rfl (hKQ.out _ _ (hI.pu 8 104 hz hUN HBB stb (Below.refl _ _) rfl))
     ·refine opw_value (w':=W.alloc (.cells #[.slice none 0 0,.int .i64 0,.int .i64 0,.int .i64 0,.int .i64 0,.int .i64 0,.bool false,.slice none 0 0,.slice none 0 0] 38)) (.pointer (some ⟨W.heap.size,0,none⟩)) (by kernel_rfl) ?_
      exact hKQ.out _ _ (hI.pu 9 16 hz hUN HBB stb ((Below.refl _ _).alloc (Nat.le_refl _) _) ⟨W.heap.size,rfl,heap_alloc_new W _,Nat.le_trans HBB hI.bel.size⟩)
     ·refine opw_value (w':=W.alloc (.cells #[.int .i64 0,.int .u64 0,.int .i64 0,.int .i64 0] 39)) (.pointer (some ⟨W.heap.size,0,none⟩)) (by kernel_rfl) ?_
      exact hKQ.out _ _ (hI.pu 10 17 hz hUN HBB stb ((Below.refl _ _).alloc (Nat.le_refl _) _) ⟨W.heap.size,rfl,heap_alloc_new W _,Nat.le_trans HBB hI.bel.size⟩)
     ·obtain ⟨g,fb,hgb,hge⟩:=hI.ge1 9 11 hED hUN
      have f:=hI.ge 6 hED
      obtain ⟨p1,f1,p2,f2,p3,f3,f,o_0⟩:=f
      refine wp_store_row 38 _ _ rfl g _ fb f 38 _ hgb (by kernel_rfl) rfl (by simp [Value.oneCell']) ?_
      have ht:=setRow_touch W g #[.slice p1 m f1,.int .i64 z.num,.int .i64 z.base,.int .i64 z.tm,.int .i64 z.next,.int .i64 z.scope,.bool z.ind,.slice p2 n f2,.slice p3 r f3]
      exact hKQ.out _ _ (hI.storel 11 (fun j hj=>by
        rcases List.mem_cons.1 hj with rfl | hj
        ·exact edge hED 9 (by kernel_rfl)
        rcases List.mem_singleton.1 hj with rfl
        exact edge hED 4 (by kernel_rfl)) (hI.bel.trans (ht.below hge (Nat.le_trans HBB hI.bel.size))) (sg24_st11 a1 n1 c1 a2 n2 c2 a3 n3 c3 x sc kk hh nx z m n r t1 t2 t3 t4 cd w.heap.size (w17.heap.size) hgb ht hge hI.cl hUN (fun j hj=>by
        rcases List.mem_cons.1 hj with rfl | hj
        ·exact edge hED 9 (by kernel_rfl)
        rcases List.mem_singleton.1 hj with rfl
        exact edge hED 4 (by kernel_rfl))) ⟨g,p1,f1,p2,f2,p3,f3,fb,(setRow_heap W g _ _ _ _ hgb),hge,o_0.touched hgb (by decide) (by decide) ht⟩)
     ·obtain ⟨g,fb,hgb,hge⟩:=hI.ge1 10 12 hED hUN
      have f:=hI.ge 7 hED
      refine wp_store_row 39 _ _ rfl g _ fb f 39 _ hgb (by kernel_rfl) rfl (by simp [Value.oneCell']) ?_
      have ht:=setRow_touch W g #[.int .i64 t1,.int .u64 t2,.int .i64 t3,.int .i64 t4]
      exact hKQ.out _ _ (hI.storel 12 (fun j hj=>by
        rcases List.mem_cons.1 hj with rfl | hj
        ·exact edge hED 10 (by kernel_rfl)
        rcases List.mem_singleton.1 hj with rfl
        exact edge hED 4 (by kernel_rfl)) (hI.bel.trans (ht.below hge (Nat.le_trans HBB hI.bel.size))) (sg24_st12 a1 n1 c1 a2 n2 c2 a3 n3 c3 x sc kk hh nx z m n r t1 t2 t3 t4 cd w.heap.size (w17.heap.size) hgb ht hge hI.cl hUN (fun j hj=>by
        rcases List.mem_cons.1 hj with rfl | hj
        ·exact edge hED 10 (by kernel_rfl)
        rcases List.mem_singleton.1 hj with rfl
        exact edge hED 4 (by kernel_rfl))) ⟨g,fb,(setRow_heap W g _ _ _ _ hgb),hge⟩)
     ·have f:=hI.ge 8 hED
      exact opw_assign 104 rfl (hKQ.out _ _ (hI.pu 13 18 hz hUN HBB stb (Below.refl _ _) f))
    ·intro b W hf hb F
     clear stb
     obtain ⟨ge,q1,e1,q2,e2,q3,e3,eB,hX,hXge,hA⟩:=F 11 (od rfl) rfl
     obtain ⟨gf,eD,hY,hYge⟩:=F 12 (od rfl) rfl
     replace eB:aT b 16=_:=eB
     replace eD:aT b 17=_:=eD
     have eC:=F 13 (od rfl) rfl
     replace eC:aT b 18=_:=eC
     rw [hf.eq]
     simp only [puts,Act.put,List.setIfInBounds_toArray,List.set_cons_zero,List.set_cons_succ,eB,eD,eC]
     clear hf F
     clear eB eD eC
     generalize aT b=AT
     clear b
     obtain ⟨w18,hW⟩:∃ w18,w18=W:=⟨_,rfl⟩
     subst hW
     have F18:Hid (_):=F17.out.on hb
     have GM18:Hid (_):=GM17.out.below hb
     have AE18:Hid (AgS w18 q1 m e1 q2 n e2 q3 r e3 z):=hA
     have XE18:Hid (w18.heap[ge]? = some (.cells #[.slice q1 m e1,.int .i64 z.num,.int .i64 z.base,.int .i64 z.tm,.int .i64 z.next,.int .i64 z.scope,.bool z.ind,.slice q2 n e2,.slice q3 r e3] 38 (0,0))∧w18.heap[gf]? = some (.cells #[.int .i64 t1,.int .u64 t2,.int .i64 t3,.int .i64 t4] 39 (0,0))):=⟨hX,hY⟩
     clear hb hX hXge hY hYge hA F17 GM17
     go_wp2_with (first | (refine wpList_load_row rfl 38 _ rfl (ge) rfl 38 #[.slice q1 m e1,.int .i64 z.num,.int .i64 z.base,.int .i64 z.tm,.int .i64 z.next,.int .i64 z.scope,.bool z.ind,.slice q2 n e2,.slice q3 r e3] (0,0) _ XE18.out.1 Tryz.underlying38 rfl (by kernel_rfl) ?_) | (refine wpList_load_row rfl 38 _ rfl (gs) rfl 38 #[.slice p1 m f1,.int .i64 z.num,.int .i64 z.base,.int .i64 z.tm,.int .i64 z.next,.int .i64 z.scope,.bool z.ind,.slice p2 n f2,.slice p3 r f3] (0,0) _ (F18.out.all (gs,#[.slice p1 m f1,.int .i64 z.num,.int .i64 z.base,.int .i64 z.tm,.int .i64 z.next,.int .i64 z.scope,.bool z.ind,.slice p2 n f2,.slice p3 r f3],38) (by simp)) Tryz.underlying38 rfl (by kernel_rfl) ?_))
     refine (eqCrl_raw q1 m e1 q2 n e2 q3 r e3 p1 f1 p2 f2 p3 f3 z _ (AE18.out.crs HOZ.out) ((HS3.out.kept F18.out.below).crs HOZ.out) HOZ.out.2.2.2.2).mono ?_
     rintro e w19 ⟨rfl,hb⟩
     have F19:Hid (_):=F18.out.on hb
     have GM19:Hid (_):=GM18.out.below hb
     clear F18 GM18
     have XE19:=(hb.block _ (Array.getElem?_eq_some_iff.1 XE18.out.2).1).trans XE18.out.2
     clear hb AE18 XE18
     have p_0:w19.cell? ⟨gf,0,none⟩=some (.int .i64 t1):=qk XE19 rfl
     have p_1:w19.cell? ⟨gf,1,none⟩=some (.int .u64 t2):=qk XE19 rfl
     have p_2:w19.cell? ⟨gf,2,none⟩=some (.int .i64 t3):=qk XE19 rfl
     have p_3:w19.cell? ⟨gf,3,none⟩=some (.int .i64 t4):=qk XE19 rfl
     have q_0:w19.cell? ⟨gt,0,none⟩=some (.int .i64 t1):=(cell_of_row _ _ 0 _ 39 (0,0) (F19.out.all (gt,#[.int .i64 t1,.int .u64 t2,.int .i64 t3,.int .i64 t4],39) (by simp))).trans rfl
     have q_1:w19.cell? ⟨gt,1,none⟩=some (.int .u64 t2):=(cell_of_row _ _ 1 _ 39 (0,0) (F19.out.all (gt,#[.int .i64 t1,.int .u64 t2,.int .i64 t3,.int .i64 t4],39) (by simp))).trans rfl
     have q_2:w19.cell? ⟨gt,2,none⟩=some (.int .i64 t3):=(cell_of_row _ _ 2 _ 39 (0,0) (F19.out.all (gt,#[.int .i64 t1,.int .u64 t2,.int .i64 t3,.int .i64 t4],39) (by simp))).trans rfl
     have q_3:w19.cell? ⟨gt,3,none⟩=some (.int .i64 t4):=(cell_of_row _ _ 3 _ 39 (0,0) (F19.out.all (gt,#[.int .i64 t1,.int .u64 t2,.int .i64 t3,.int .i64 t4],39) (by simp))).trans rfl
     go_wp2_with fail
     refine (eqSecret_raw t1 t2 t3 t4 _).mono ?_
     rintro e w20 ⟨rfl,hb⟩
     have F20:Hid (_):=F19.out.on hb
     have GM20:Hid (_):=GM19.out.below hb
     clear F19 GM19
     clear hb XE19 p_0 p_1 p_2 p_3 q_0 q_1 q_2 q_3
     go_wp2_with (refine wpList_load_row rfl 38 _ rfl (gx) rfl 38 #[.slice g1 m h1,.int .i64 z.num,.int .i64 z.base,.int .i64 z.tm,.int .i64 z.next,.int .i64 z.scope,.bool z.ind,.slice g2 n h2,.slice g3 r h3] (0,0) _ (F20.out.all (gx,#[.slice g1 m h1,.int .i64 z.num,.int .i64 z.base,.int .i64 z.tm,.int .i64 z.next,.int .i64 z.scope,.bool z.ind,.slice g2 n h2,.slice g3 r h3],38) (by simp)) Tryz.underlying38 rfl (by kernel_rfl) ?_)
     refine (heldCrl_raw w5.heap.size g1 m h1 g2 n h2 g3 r h3 z slg pvg vsg 1 _ GM20.out HOZ.out HLG.out (by decide) (by decide)).mono ?_
     rintro e w21 ⟨rfl,hb⟩
     have F21:Hid (_):=F20.out.on hb
     clear hb F20 GM20
     rw [HKK.out]
     go_wp2
     go_ret
     exact ⟨rfl,HB3.out.trans (F21.out.below.mono HB3.out.size)⟩
end Go.Proofs.YtnmplldhdfingaaGreatDoor
