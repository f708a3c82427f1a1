import Derived.Test.YtmdfbnlgfhjnoaaGreatDoorFA41
import Derived.Test.YtmdfbnlgfhjnoaaGreatDoorFA43
set_option maxRecDepth 10000
set_option maxHeartbeats 8000000
set_option linter.unusedVariables false
namespace Go.Proofs.YtmdfbnlgfhjnoaaGreatDoor
open Go.RowKit Go.Sort
structure CeS (s:CES)(x:CE):Prop where
 l1:s.n1≤1000
 l2:s.n2≤1000
 l3:s.n3≤1000
 l4:s.n4≤1000
 l5:s.n5≤1000
 l6:s.n6≤1000
 l7:s.n7≤1000
 l8:s.n8≤1000
 l9:s.n9≤1000
 key:U64 x.key.2.1
 iss:∀ k,k<s.n1→(x.iss.getD k default).val.size≤1000
 sub:∀ k,k<s.n2→(x.sub.getD k default).val.size≤1000
 nms:∀ k,k<s.n3→GeS (x.nms.getD k default)
 per:∀ k,k<s.n4→GeS (x.per.getD k default)
 den:∀ k,k<s.n5→GeS (x.den.getD k default)
 ext:∀ k,k<s.n8→(x.ext.getD k default).val.length≤1000
def cd4m (s:CES)(x:CE)(y:Int × Int)(b0 off:Nat)(ao:Option Addr)(kq cc:Nat)(es0:List It)(Q R G B:Nat):RSpec where
 m:=20
 n:=23
 slots:=[15,16,17,18,19,20,21,22,23,24,25,26,27,28,29,30,31,32,33,3,100020,100021,3]
 kills:=[[],[],[],[],[],[],[],[],[],[],[],[],[],[],[],[],[],[],[],[],[],[18],[19]]
 pres:=[[],[],[],[],[],[],[],[],[],[],[],[],[],[],[],[],[],[],[0],[18],[],[],[]]
 fact:=fun k v w=>match k with
  | 0=>v=.slice ao kq cc
  | 1=>v=.pointer (some ⟨G,15,none⟩)
  | 2=>v=.slice s.a7 s.n7 s.c7
  | 3=>v=.int .i64 (kq:Int)
  | 4=>v=.pointer (some ⟨b0,off+kq * 2,none⟩)
  | 5=>v=.pointer (some ⟨b0,off+kq * 2,none⟩)
  | 6=>v=.int .i64 y.1
  | 7=>∃ a1 n1 c1 k1 m1 e1,v=.agg #[.int .i64 (numI y.1).cls,.int .i64 (numI y.1).tag,.bool (numI y.1).cons,.slice a1 n1 c1,.slice k1 m1 e1]∧ItZ 0 Q 1 w (numI y.1) a1 n1 c1 k1 m1 e1
  | 8=>v=.pointer (some ⟨G,15,none⟩)
  | 9=>v=.slice s.a7 s.n7 s.c7
  | 10=>v=.int .i64 (kq:Int)
  | 11=>v=.pointer (some ⟨b0,off+kq * 2,none⟩)
  | 12=>v=.pointer (some ⟨b0,off+kq * 2+1,none⟩)
  | 13=>v=.int .i64 y.2
  | 14=>∃ a2 n2 c2 k2 m2 e2,v=.agg #[.int .i64 (numI y.2).cls,.int .i64 (numI y.2).tag,.bool (numI y.2).cons,.slice a2 n2 c2,.slice k2 m2 e2]∧ItZ 0 Q 1 w (numI y.2) a2 n2 c2 k2 m2 e2
  | 15=>∃ gr,v=.slice (some ⟨gr,0,none⟩) 2 2∧KidZ 0 Q w gr 2 [numI y.1,numI y.2]
  | 16=>∃ a0 n0 c0 k0 m0 e0,v=.agg #[.int .i64 (mapI y).cls,.int .i64 (mapI y).tag,.bool (mapI y).cons,.slice a0 n0 c0,.slice k0 m0 e0]∧ItZ 0 Q 2 w (mapI y) a0 n0 c0 k0 m0 e0
  | 17=>∃ g8 a0 n0 c0 k0 m0 e0,v=.slice (some ⟨g8,0,none⟩) 1 1∧w.heap[g8]? = some (.cells #[.int .i64 (mapI y).cls,.int .i64 (mapI y).tag,.bool (mapI y).cons,.slice a0 n0 c0,.slice k0 m0 e0] 75 (0,0))∧ItZ 0 Q 2 w (mapI y) a0 n0 c0 k0 m0 e0∧Q≤g8
  | 18=>∃ gf cf,v=.slice (some ⟨gf,0,none⟩) (kq+1) cf∧OwnItZ 2 0 R w (some ⟨gf,0,none⟩) (kq+1) cf (es0++[mapI y])
  | 19=>∃ gf cf,v=.slice (some ⟨gf,0,none⟩) (kq+1) cf∧OwnItZ 2 0 R w (some ⟨gf,0,none⟩) (kq+1) cf (es0++[mapI y])
  | 20=>w.heap[G]? = some (.cells #[.int .i64 x.ser,.slice s.a1 s.n1 s.c1,.slice s.a2 s.n2 s.c2,.int .i64 x.frm,.int .i64 x.til,.int .i64 x.key.1,.int .u64 x.key.2.1,.int .i64 x.key.2.2,.bool x.ca,.int .i64 x.room,.int .i64 x.uses,.slice s.a3 s.n3 s.c3,.slice s.a4 s.n4 s.c4,.slice s.a5 s.n5 s.c5,.slice s.a6 s.n6 s.c6,.slice s.a7 s.n7 s.c7,.int .i64 x.need,.int .i64 x.nomap,.int .i64 x.noany,.slice s.a8 s.n8 s.c8,.slice s.a9 s.n9 s.c9] 46 (0,0))
  | 21=>OwnItZ 2 0 R w ao kq cc es0
  | _=>v=.slice ao kq cc
theorem cd4m_stb (s:CES)(x:CE)(y:Int × Int)(b0 off:Nat)(ao:Option Addr)(kq cc:Nat)(es0:List It)(Q R G B:Nat)(k:Nat)(hk:k<23):StB ((cd4m s x y b0 off ao kq cc es0 Q R G (B)).fact k):=by
 match k,hk with
 | 0,_=>exact fun _ _ _ h _=>h
 | 1,_=>exact fun _ _ _ h _=>h
 | 2,_=>exact fun _ _ _ h _=>h
 | 3,_=>exact fun _ _ _ h _=>h
 | 4,_=>exact fun _ _ _ h _=>h
 | 5,_=>exact fun _ _ _ h _=>h
 | 6,_=>exact fun _ _ _ h _=>h
 | 7,_=>exact fun _ _ _ ⟨a1,n1,c1,k1,m1,e1,hv,q_0⟩ hb=>⟨a1,n1,c1,k1,m1,e1,hv,q_0.kept hb⟩
 | 8,_=>exact fun _ _ _ h _=>h
 | 9,_=>exact fun _ _ _ h _=>h
 | 10,_=>exact fun _ _ _ h _=>h
 | 11,_=>exact fun _ _ _ h _=>h
 | 12,_=>exact fun _ _ _ h _=>h
 | 13,_=>exact fun _ _ _ h _=>h
 | 14,_=>exact fun _ _ _ ⟨a2,n2,c2,k2,m2,e2,hv,q_0⟩ hb=>⟨a2,n2,c2,k2,m2,e2,hv,q_0.kept hb⟩
 | 15,_=>exact fun _ _ _ ⟨gr,hv,q_0⟩ hb=>⟨gr,hv,q_0.kept hb⟩
 | 16,_=>exact fun _ _ _ ⟨a0,n0,c0,k0,m0,e0,hv,q_0⟩ hb=>⟨a0,n0,c0,k0,m0,e0,hv,q_0.kept hb⟩
 | 17,_=>exact fun _ _ _ ⟨g8,a0,n0,c0,k0,m0,e0,hv,q_0,q_1,q_2⟩ hb=>⟨g8,a0,n0,c0,k0,m0,e0,hv,below_kept q_0 hb,q_1.kept hb,q_2⟩
 | 18,_=>exact fun _ _ _ ⟨gf,cf,hv,q_0⟩ hb=>⟨gf,cf,hv,q_0.kept hb⟩
 | 19,_=>exact fun _ _ _ ⟨gf,cf,hv,q_0⟩ hb=>⟨gf,cf,hv,q_0.kept hb⟩
 | 20,_=>exact fun _ _ _ q_0 hb=>below_kept q_0 hb
 | 21,_=>exact fun _ _ _ q_0 hb=>q_0.kept hb
 | 22,_=>exact fun _ _ _ h _=>h
 | k+23,hk=>omega
def cd4e (s:CES)(x:CE)(y:XP)(sa:Option Addr)(sn sc:Nat)(b0 off:Nat)(ao:Option Addr)(kq cc:Nat)(es0:List It)(Q R G B:Nat):RSpec where
 m:=27
 n:=30
 slots:=[42,43,44,45,46,47,48,49,50,51,52,53,54,55,56,57,58,59,60,61,62,63,64,65,66,67,5,100027,100028,5]
 kills:=[[],[],[],[],[],[],[],[],[],[],[],[],[],[],[],[],[],[],[],[],[],[],[],[],[],[],[],[],[25],[26]]
 pres:=[[],[],[],[],[],[],[],[],[],[],[],[],[],[],[],[],[],[],[],[],[],[],[],[],[],[0],[25],[],[],[]]
 fact:=fun k v w=>match k with
  | 0=>v=.slice ao kq cc
  | 1=>v=.pointer (some ⟨G,19,none⟩)
  | 2=>v=.slice s.a8 s.n8 s.c8
  | 3=>v=.int .i64 (kq:Int)
  | 4=>v=.pointer (some ⟨b0,off+kq * 3,none⟩)
  | 5=>v=.pointer (some ⟨b0,off+kq * 3,none⟩)
  | 6=>v=.int .i64 y.id
  | 7=>∃ a1 n1 c1 k1 m1 e1,v=.agg #[.int .i64 (numI y.id).cls,.int .i64 (numI y.id).tag,.bool (numI y.id).cons,.slice a1 n1 c1,.slice k1 m1 e1]∧ItZ 0 Q 1 w (numI y.id) a1 n1 c1 k1 m1 e1
  | 8=>v=.pointer (some ⟨G,19,none⟩)
  | 9=>v=.slice s.a8 s.n8 s.c8
  | 10=>v=.int .i64 (kq:Int)
  | 11=>v=.pointer (some ⟨b0,off+kq * 3,none⟩)
  | 12=>v=.pointer (some ⟨b0,off+kq * 3+1,none⟩)
  | 13=>v=.bool y.crit
  | 14=>∃ a2 n2 c2 k2 m2 e2,v=.agg #[.int .i64 (flgI y.crit).cls,.int .i64 (flgI y.crit).tag,.bool (flgI y.crit).cons,.slice a2 n2 c2,.slice k2 m2 e2]∧ItZ 0 Q 1 w (flgI y.crit) a2 n2 c2 k2 m2 e2
  | 15=>v=.pointer (some ⟨G,19,none⟩)
  | 16=>v=.slice s.a8 s.n8 s.c8
  | 17=>v=.int .i64 (kq:Int)
  | 18=>v=.pointer (some ⟨b0,off+kq * 3,none⟩)
  | 19=>v=.pointer (some ⟨b0,off+kq * 3+2,none⟩)
  | 20=>v=.slice sa sn sc
  | 21=>∃ a3 n3 c3 k3 m3 e3,v=.agg #[.int .i64 (bytI y.val).cls,.int .i64 (bytI y.val).tag,.bool (bytI y.val).cons,.slice a3 n3 c3,.slice k3 m3 e3]∧ItZ 0 Q 1 w (bytI y.val) a3 n3 c3 k3 m3 e3
  | 22=>∃ gr,v=.slice (some ⟨gr,0,none⟩) 3 3∧KidZ 0 Q w gr 2 [numI y.id,flgI y.crit,bytI y.val]
  | 23=>∃ a0 n0 c0 k0 m0 e0,v=.agg #[.int .i64 (exI y).cls,.int .i64 (exI y).tag,.bool (exI y).cons,.slice a0 n0 c0,.slice k0 m0 e0]∧ItZ 0 Q 2 w (exI y) a0 n0 c0 k0 m0 e0
  | 24=>∃ g8 a0 n0 c0 k0 m0 e0,v=.slice (some ⟨g8,0,none⟩) 1 1∧w.heap[g8]? = some (.cells #[.int .i64 (exI y).cls,.int .i64 (exI y).tag,.bool (exI y).cons,.slice a0 n0 c0,.slice k0 m0 e0] 75 (0,0))∧ItZ 0 Q 2 w (exI y) a0 n0 c0 k0 m0 e0∧Q≤g8
  | 25=>∃ gf cf,v=.slice (some ⟨gf,0,none⟩) (kq+1) cf∧OwnItZ 2 0 R w (some ⟨gf,0,none⟩) (kq+1) cf (es0++[exI y])
  | 26=>∃ gf cf,v=.slice (some ⟨gf,0,none⟩) (kq+1) cf∧OwnItZ 2 0 R w (some ⟨gf,0,none⟩) (kq+1) cf (es0++[exI y])
  | 27=>w.heap[G]? = some (.cells #[.int .i64 x.ser,.slice s.a1 s.n1 s.c1,.slice s.a2 s.n2 s.c2,.int .i64 x.frm,.int .i64 x.til,.int .i64 x.key.1,.int .u64 x.key.2.1,.int .i64 x.key.2.2,.bool x.ca,.int .i64 x.room,.int .i64 x.uses,.slice s.a3 s.n3 s.c3,.slice s.a4 s.n4 s.c4,.slice s.a5 s.n5 s.c5,.slice s.a6 s.n6 s.c6,.slice s.a7 s.n7 s.c7,.int .i64 x.need,.int .i64 x.nomap,.int .i64 x.noany,.slice s.a8 s.n8 s.c8,.slice s.a9 s.n9 s.c9] 46 (0,0))
  | 28=>OwnItZ 2 0 R w ao kq cc es0
  | _=>v=.slice ao kq cc
theorem cd4e_stb (s:CES)(x:CE)(y:XP)(sa:Option Addr)(sn sc:Nat)(b0 off:Nat)(ao:Option Addr)(kq cc:Nat)(es0:List It)(Q R G B:Nat)(k:Nat)(hk:k<30):StB ((cd4e s x y sa sn sc b0 off ao kq cc es0 Q R G (B)).fact k):=by
 match k,hk with
 | 0,_=>exact fun _ _ _ h _=>h
 | 1,_=>exact fun _ _ _ h _=>h
 | 2,_=>exact fun _ _ _ h _=>h
 | 3,_=>exact fun _ _ _ h _=>h
 | 4,_=>exact fun _ _ _ h _=>h
 | 5,_=>exact fun _ _ _ h _=>h
 | 6,_=>exact fun _ _ _ h _=>h
 | 7,_=>exact fun _ _ _ ⟨a1,n1,c1,k1,m1,e1,hv,q_0⟩ hb=>⟨a1,n1,c1,k1,m1,e1,hv,q_0.kept hb⟩
 | 8,_=>exact fun _ _ _ h _=>h
 | 9,_=>exact fun _ _ _ h _=>h
 | 10,_=>exact fun _ _ _ h _=>h
 | 11,_=>exact fun _ _ _ h _=>h
 | 12,_=>exact fun _ _ _ h _=>h
 | 13,_=>exact fun _ _ _ h _=>h
 | 14,_=>exact fun _ _ _ ⟨a2,n2,c2,k2,m2,e2,hv,q_0⟩ hb=>⟨a2,n2,c2,k2,m2,e2,hv,q_0.kept hb⟩
 | 15,_=>exact fun _ _ _ h _=>h
 | 16,_=>exact fun _ _ _ h _=>h
 | 17,_=>exact fun _ _ _ h _=>h
 | 18,_=>exact fun _ _ _ h _=>h
 | 19,_=>exact fun _ _ _ h _=>h
 | 20,_=>exact fun _ _ _ h _=>h
 | 21,_=>exact fun _ _ _ ⟨a3,n3,c3,k3,m3,e3,hv,q_0⟩ hb=>⟨a3,n3,c3,k3,m3,e3,hv,q_0.kept hb⟩
 | 22,_=>exact fun _ _ _ ⟨gr,hv,q_0⟩ hb=>⟨gr,hv,q_0.kept hb⟩
 | 23,_=>exact fun _ _ _ ⟨a0,n0,c0,k0,m0,e0,hv,q_0⟩ hb=>⟨a0,n0,c0,k0,m0,e0,hv,q_0.kept hb⟩
 | 24,_=>exact fun _ _ _ ⟨g8,a0,n0,c0,k0,m0,e0,hv,q_0,q_1,q_2⟩ hb=>⟨g8,a0,n0,c0,k0,m0,e0,hv,below_kept q_0 hb,q_1.kept hb,q_2⟩
 | 25,_=>exact fun _ _ _ ⟨gf,cf,hv,q_0⟩ hb=>⟨gf,cf,hv,q_0.kept hb⟩
 | 26,_=>exact fun _ _ _ ⟨gf,cf,hv,q_0⟩ hb=>⟨gf,cf,hv,q_0.kept hb⟩
 | 27,_=>exact fun _ _ _ q_0 hb=>below_kept q_0 hb
 | 28,_=>exact fun _ _ _ q_0 hb=>q_0.kept hb
 | 29,_=>exact fun _ _ _ h _=>h
 | k+30,hk=>omega
def cd4b (s:CES)(x:CE)(am:Option Addr)(cm:Nat)(ao:Option Addr)(cc:Nat)(L R G B:Nat):RSpec where
 m:=55
 n:=59
 slots:=[68,69,70,71,72,73,74,75,76,77,78,79,80,81,82,83,84,85,86,87,88,89,90,91,92,93,94,95,96,97,98,99,100,101,102,103,104,105,106,107,108,109,110,111,112,113,114,115,116,117,118,119,120,121,100054,100055,100056,100057,100058]
 kills:=[[],[],[],[],[],[],[],[],[],[],[],[],[],[],[],[],[],[],[],[],[],[],[],[],[],[],[],[],[],[],[],[],[],[],[],[],[],[],[],[],[],[],[],[],[],[],[],[],[],[],[],[],[],[],[],[],[54],[],[]]
 pres:=[[],[],[],[],[],[],[],[],[],[],[],[],[],[],[],[],[],[],[],[],[],[],[],[],[],[],[],[],[],[],[],[],[],[],[],[],[],[],[],[],[],[],[],[],[],[],[],[],[],[],[],[],[],[],[],[],[],[],[]]
 fact:=fun k v w=>match k with
  | 0=>v=.pointer (some ⟨G,0,none⟩)
  | 1=>v=.int .i64 x.ser
  | 2=>∃ a1 n1 c1 k1 m1 e1,v=.agg #[.int .i64 (numI x.ser).cls,.int .i64 (numI x.ser).tag,.bool (numI x.ser).cons,.slice a1 n1 c1,.slice k1 m1 e1]∧ItZ L R 6 w (numI x.ser) a1 n1 c1 k1 m1 e1∧L≤G∧G+1<R
  | 3=>v=.pointer (some ⟨G,1,none⟩)
  | 4=>v=.agg #[.slice s.a1 s.n1 s.c1]
  | 5=>∃ a2 n2 c2 k2 m2 e2,v=.agg #[.int .i64 (namI x.iss).cls,.int .i64 (namI x.iss).tag,.bool (namI x.iss).cons,.slice a2 n2 c2,.slice k2 m2 e2]∧ItZ L R 6 w (namI x.iss) a2 n2 c2 k2 m2 e2∧L≤G∧G+1<R
  | 6=>v=.pointer (some ⟨G,2,none⟩)
  | 7=>v=.agg #[.slice s.a2 s.n2 s.c2]
  | 8=>∃ a3 n3 c3 k3 m3 e3,v=.agg #[.int .i64 (namI x.sub).cls,.int .i64 (namI x.sub).tag,.bool (namI x.sub).cons,.slice a3 n3 c3,.slice k3 m3 e3]∧ItZ L R 6 w (namI x.sub) a3 n3 c3 k3 m3 e3∧L≤G∧G+1<R
  | 9=>v=.pointer (some ⟨G,3,none⟩)
  | 10=>v=.int .i64 x.frm
  | 11=>∃ a4 n4 c4 k4 m4 e4,v=.agg #[.int .i64 (numI x.frm).cls,.int .i64 (numI x.frm).tag,.bool (numI x.frm).cons,.slice a4 n4 c4,.slice k4 m4 e4]∧ItZ L R 6 w (numI x.frm) a4 n4 c4 k4 m4 e4∧L≤G∧G+1<R
  | 12=>v=.pointer (some ⟨G,4,none⟩)
  | 13=>v=.int .i64 x.til
  | 14=>∃ a5 n5 c5 k5 m5 e5,v=.agg #[.int .i64 (numI x.til).cls,.int .i64 (numI x.til).tag,.bool (numI x.til).cons,.slice a5 n5 c5,.slice k5 m5 e5]∧ItZ L R 6 w (numI x.til) a5 n5 c5 k5 m5 e5∧L≤G∧G+1<R
  | 15=>v=.pointer (some ⟨G,5,none⟩)
  | 16=>v=.agg #[.int .i64 x.key.1,.int .u64 x.key.2.1,.int .i64 x.key.2.2]
  | 17=>∃ a6 n6 c6 k6 m6 e6,v=.agg #[.int .i64 (kyI x.key).cls,.int .i64 (kyI x.key).tag,.bool (kyI x.key).cons,.slice a6 n6 c6,.slice k6 m6 e6]∧ItZ L R 6 w (kyI x.key) a6 n6 c6 k6 m6 e6∧L≤G∧G+1<R
  | 18=>v=.pointer (some ⟨G,8,none⟩)
  | 19=>v=.bool x.ca
  | 20=>∃ a7 n7 c7 k7 m7 e7,v=.agg #[.int .i64 (flgI x.ca).cls,.int .i64 (flgI x.ca).tag,.bool (flgI x.ca).cons,.slice a7 n7 c7,.slice k7 m7 e7]∧ItZ L R 6 w (flgI x.ca) a7 n7 c7 k7 m7 e7∧L≤G∧G+1<R
  | 21=>v=.pointer (some ⟨G,9,none⟩)
  | 22=>v=.int .i64 x.room
  | 23=>∃ a8 n8 c8 k8 m8 e8,v=.agg #[.int .i64 (numI x.room).cls,.int .i64 (numI x.room).tag,.bool (numI x.room).cons,.slice a8 n8 c8,.slice k8 m8 e8]∧ItZ L R 6 w (numI x.room) a8 n8 c8 k8 m8 e8∧L≤G∧G+1<R
  | 24=>v=.pointer (some ⟨G,10,none⟩)
  | 25=>v=.int .i64 x.uses
  | 26=>∃ a9 n9 c9 k9 m9 e9,v=.agg #[.int .i64 (numI x.uses).cls,.int .i64 (numI x.uses).tag,.bool (numI x.uses).cons,.slice a9 n9 c9,.slice k9 m9 e9]∧ItZ L R 6 w (numI x.uses) a9 n9 c9 k9 m9 e9∧L≤G∧G+1<R
  | 27=>v=.pointer (some ⟨G,11,none⟩)
  | 28=>v=.slice s.a3 s.n3 s.c3
  | 29=>∃ a10 n10 c10 k10 m10 e10,v=.agg #[.int .i64 (lstI (x.nms.map gneI)).cls,.int .i64 (lstI (x.nms.map gneI)).tag,.bool (lstI (x.nms.map gneI)).cons,.slice a10 n10 c10,.slice k10 m10 e10]∧ItZ L R 6 w (lstI (x.nms.map gneI)) a10 n10 c10 k10 m10 e10∧L≤G∧G+1<R
  | 30=>v=.pointer (some ⟨G,12,none⟩)
  | 31=>v=.slice s.a4 s.n4 s.c4
  | 32=>∃ a11 n11 c11 k11 m11 e11,v=.agg #[.int .i64 (lstI (x.per.map gneI)).cls,.int .i64 (lstI (x.per.map gneI)).tag,.bool (lstI (x.per.map gneI)).cons,.slice a11 n11 c11,.slice k11 m11 e11]∧ItZ L R 6 w (lstI (x.per.map gneI)) a11 n11 c11 k11 m11 e11∧L≤G∧G+1<R
  | 33=>v=.pointer (some ⟨G,13,none⟩)
  | 34=>v=.slice s.a5 s.n5 s.c5
  | 35=>∃ a12 n12 c12 k12 m12 e12,v=.agg #[.int .i64 (lstI (x.den.map gneI)).cls,.int .i64 (lstI (x.den.map gneI)).tag,.bool (lstI (x.den.map gneI)).cons,.slice a12 n12 c12,.slice k12 m12 e12]∧ItZ L R 6 w (lstI (x.den.map gneI)) a12 n12 c12 k12 m12 e12∧L≤G∧G+1<R
  | 36=>v=.pointer (some ⟨G,14,none⟩)
  | 37=>v=.slice s.a6 s.n6 s.c6
  | 38=>∃ a13 n13 c13 k13 m13 e13,v=.agg #[.int .i64 (lstI (x.pol.map numI)).cls,.int .i64 (lstI (x.pol.map numI)).tag,.bool (lstI (x.pol.map numI)).cons,.slice a13 n13 c13,.slice k13 m13 e13]∧ItZ L R 6 w (lstI (x.pol.map numI)) a13 n13 c13 k13 m13 e13∧L≤G∧G+1<R
  | 39=>v=.slice am s.n7 cm
  | 40=>∃ a14 n14 c14 k14 m14 e14,v=.agg #[.int .i64 (lstI (x.maps.map mapI)).cls,.int .i64 (lstI (x.maps.map mapI)).tag,.bool (lstI (x.maps.map mapI)).cons,.slice a14 n14 c14,.slice k14 m14 e14]∧ItZ L R 6 w (lstI (x.maps.map mapI)) a14 n14 c14 k14 m14 e14∧L≤G∧G+1<R
  | 41=>v=.pointer (some ⟨G,16,none⟩)
  | 42=>v=.int .i64 x.need
  | 43=>∃ a15 n15 c15 k15 m15 e15,v=.agg #[.int .i64 (numI x.need).cls,.int .i64 (numI x.need).tag,.bool (numI x.need).cons,.slice a15 n15 c15,.slice k15 m15 e15]∧ItZ L R 6 w (numI x.need) a15 n15 c15 k15 m15 e15∧L≤G∧G+1<R
  | 44=>v=.pointer (some ⟨G,17,none⟩)
  | 45=>v=.int .i64 x.nomap
  | 46=>∃ a16 n16 c16 k16 m16 e16,v=.agg #[.int .i64 (numI x.nomap).cls,.int .i64 (numI x.nomap).tag,.bool (numI x.nomap).cons,.slice a16 n16 c16,.slice k16 m16 e16]∧ItZ L R 6 w (numI x.nomap) a16 n16 c16 k16 m16 e16∧L≤G∧G+1<R
  | 47=>v=.pointer (some ⟨G,18,none⟩)
  | 48=>v=.int .i64 x.noany
  | 49=>∃ a17 n17 c17 k17 m17 e17,v=.agg #[.int .i64 (numI x.noany).cls,.int .i64 (numI x.noany).tag,.bool (numI x.noany).cons,.slice a17 n17 c17,.slice k17 m17 e17]∧ItZ L R 6 w (numI x.noany) a17 n17 c17 k17 m17 e17∧L≤G∧G+1<R
  | 50=>v=.slice ao s.n8 cc
  | 51=>∃ a18 n18 c18 k18 m18 e18,v=.agg #[.int .i64 (lstI (x.ext.map exI)).cls,.int .i64 (lstI (x.ext.map exI)).tag,.bool (lstI (x.ext.map exI)).cons,.slice a18 n18 c18,.slice k18 m18 e18]∧ItZ L R 6 w (lstI (x.ext.map exI)) a18 n18 c18 k18 m18 e18∧L≤G∧G+1<R
  | 52=>∃ gr,v=.slice (some ⟨gr,0,none⟩) 18 18∧KidZ L R w gr 7 (ceK x)∧L≤G∧G+1<R
  | 53=>∃ a0 n0 c0 k0 m0 e0,v=.agg #[.int .i64 (boxI 1 (ceK x)).cls,.int .i64 (boxI 1 (ceK x)).tag,.bool (boxI 1 (ceK x)).cons,.slice a0 n0 c0,.slice k0 m0 e0]∧ItZ L R 7 w (boxI 1 (ceK x)) a0 n0 c0 k0 m0 e0∧L≤G∧G+1<R
  | 54=>∃ a0 n0 c0 k0 m0 e0,w.heap[(G+1)]? = some (.cells #[.int .i64 (boxI 1 (ceK x)).cls,.int .i64 (boxI 1 (ceK x)).tag,.bool (boxI 1 (ceK x)).cons,.slice a0 n0 c0,.slice k0 m0 e0] 75 (0,0))∧ItZ L R 7 w (boxI 1 (ceK x)) a0 n0 c0 k0 m0 e0∧L≤G∧G+1<R
  | 55=>w.heap[G]? = some (.cells #[.int .i64 x.ser,.slice s.a1 s.n1 s.c1,.slice s.a2 s.n2 s.c2,.int .i64 x.frm,.int .i64 x.til,.int .i64 x.key.1,.int .u64 x.key.2.1,.int .i64 x.key.2.2,.bool x.ca,.int .i64 x.room,.int .i64 x.uses,.slice s.a3 s.n3 s.c3,.slice s.a4 s.n4 s.c4,.slice s.a5 s.n5 s.c5,.slice s.a6 s.n6 s.c6,.slice s.a7 s.n7 s.c7,.int .i64 x.need,.int .i64 x.nomap,.int .i64 x.noany,.slice s.a8 s.n8 s.c8,.slice s.a9 s.n9 s.c9] 46 (0,0))
  | 56=>w.heap[(G+1)]? = some (.cells #[.int .i64 0,.int .i64 0,.bool false,.slice none 0 0,.slice none 0 0] 75 (0,0))
  | 57=>ListZ L R 3 w am s.n7 (x.maps.map mapI)∧L≤G∧G+1<R
  | _=>ListZ L R 3 w ao s.n8 (x.ext.map exI)∧L≤G∧G+1<R
theorem cd4b_stb (s:CES)(x:CE)(am:Option Addr)(cm:Nat)(ao:Option Addr)(cc:Nat)(L R G B:Nat)(k:Nat)(hk:k<59):StB ((cd4b s x am cm ao cc L R G (B)).fact k):=by
 match k,hk with
 | 0,_=>exact fun _ _ _ h _=>h
 | 1,_=>exact fun _ _ _ h _=>h
 | 2,_=>exact fun _ _ _ ⟨a1,n1,c1,k1,m1,e1,hv,q_0,q_1⟩ hb=>⟨a1,n1,c1,k1,m1,e1,hv,q_0.kept hb,q_1⟩
 | 3,_=>exact fun _ _ _ h _=>h
 | 4,_=>exact fun _ _ _ h _=>h
 | 5,_=>exact fun _ _ _ ⟨a2,n2,c2,k2,m2,e2,hv,q_0,q_1⟩ hb=>⟨a2,n2,c2,k2,m2,e2,hv,q_0.kept hb,q_1⟩
 | 6,_=>exact fun _ _ _ h _=>h
 | 7,_=>exact fun _ _ _ h _=>h
 | 8,_=>exact fun _ _ _ ⟨a3,n3,c3,k3,m3,e3,hv,q_0,q_1⟩ hb=>⟨a3,n3,c3,k3,m3,e3,hv,q_0.kept hb,q_1⟩
 | 9,_=>exact fun _ _ _ h _=>h
 | 10,_=>exact fun _ _ _ h _=>h
 | 11,_=>exact fun _ _ _ ⟨a4,n4,c4,k4,m4,e4,hv,q_0,q_1⟩ hb=>⟨a4,n4,c4,k4,m4,e4,hv,q_0.kept hb,q_1⟩
 | 12,_=>exact fun _ _ _ h _=>h
 | 13,_=>exact fun _ _ _ h _=>h
 | 14,_=>exact fun _ _ _ ⟨a5,n5,c5,k5,m5,e5,hv,q_0,q_1⟩ hb=>⟨a5,n5,c5,k5,m5,e5,hv,q_0.kept hb,q_1⟩
 | 15,_=>exact fun _ _ _ h _=>h
 | 16,_=>exact fun _ _ _ h _=>h
 | 17,_=>exact fun _ _ _ ⟨a6,n6,c6,k6,m6,e6,hv,q_0,q_1⟩ hb=>⟨a6,n6,c6,k6,m6,e6,hv,q_0.kept hb,q_1⟩
 | 18,_=>exact fun _ _ _ h _=>h
 | 19,_=>exact fun _ _ _ h _=>h
 | 20,_=>exact fun _ _ _ ⟨a7,n7,c7,k7,m7,e7,hv,q_0,q_1⟩ hb=>⟨a7,n7,c7,k7,m7,e7,hv,q_0.kept hb,q_1⟩
 | 21,_=>exact fun _ _ _ h _=>h
 | 22,_=>exact fun _ _ _ h _=>h
 | 23,_=>exact fun _ _ _ ⟨a8,n8,c8,k8,m8,e8,hv,q_0,q_1⟩ hb=>⟨a8,n8,c8,k8,m8,e8,hv,q_0.kept hb,q_1⟩
 | 24,_=>exact fun _ _ _ h _=>h
 | 25,_=>exact fun _ _ _ h _=>h
 | 26,_=>exact fun _ _ _ ⟨a9,n9,c9,k9,m9,e9,hv,q_0,q_1⟩ hb=>⟨a9,n9,c9,k9,m9,e9,hv,q_0.kept hb,q_1⟩
 | 27,_=>exact fun _ _ _ h _=>h
 | 28,_=>exact fun _ _ _ h _=>h
 | 29,_=>exact fun _ _ _ ⟨a10,n10,c10,k10,m10,e10,hv,q_0,q_1⟩ hb=>⟨a10,n10,c10,k10,m10,e10,hv,q_0.kept hb,q_1⟩
 | 30,_=>exact fun _ _ _ h _=>h
 | 31,_=>exact fun _ _ _ h _=>h
 | 32,_=>exact fun _ _ _ ⟨a11,n11,c11,k11,m11,e11,hv,q_0,q_1⟩ hb=>⟨a11,n11,c11,k11,m11,e11,hv,q_0.kept hb,q_1⟩
 | 33,_=>exact fun _ _ _ h _=>h
 | 34,_=>exact fun _ _ _ h _=>h
 | 35,_=>exact fun _ _ _ ⟨a12,n12,c12,k12,m12,e12,hv,q_0,q_1⟩ hb=>⟨a12,n12,c12,k12,m12,e12,hv,q_0.kept hb,q_1⟩
 | 36,_=>exact fun _ _ _ h _=>h
 | 37,_=>exact fun _ _ _ h _=>h
 | 38,_=>exact fun _ _ _ ⟨a13,n13,c13,k13,m13,e13,hv,q_0,q_1⟩ hb=>⟨a13,n13,c13,k13,m13,e13,hv,q_0.kept hb,q_1⟩
 | 39,_=>exact fun _ _ _ h _=>h
 | 40,_=>exact fun _ _ _ ⟨a14,n14,c14,k14,m14,e14,hv,q_0,q_1⟩ hb=>⟨a14,n14,c14,k14,m14,e14,hv,q_0.kept hb,q_1⟩
 | 41,_=>exact fun _ _ _ h _=>h
 | 42,_=>exact fun _ _ _ h _=>h
 | 43,_=>exact fun _ _ _ ⟨a15,n15,c15,k15,m15,e15,hv,q_0,q_1⟩ hb=>⟨a15,n15,c15,k15,m15,e15,hv,q_0.kept hb,q_1⟩
 | 44,_=>exact fun _ _ _ h _=>h
 | 45,_=>exact fun _ _ _ h _=>h
 | 46,_=>exact fun _ _ _ ⟨a16,n16,c16,k16,m16,e16,hv,q_0,q_1⟩ hb=>⟨a16,n16,c16,k16,m16,e16,hv,q_0.kept hb,q_1⟩
 | 47,_=>exact fun _ _ _ h _=>h
 | 48,_=>exact fun _ _ _ h _=>h
 | 49,_=>exact fun _ _ _ ⟨a17,n17,c17,k17,m17,e17,hv,q_0,q_1⟩ hb=>⟨a17,n17,c17,k17,m17,e17,hv,q_0.kept hb,q_1⟩
 | 50,_=>exact fun _ _ _ h _=>h
 | 51,_=>exact fun _ _ _ ⟨a18,n18,c18,k18,m18,e18,hv,q_0,q_1⟩ hb=>⟨a18,n18,c18,k18,m18,e18,hv,q_0.kept hb,q_1⟩
 | 52,_=>exact fun _ _ _ ⟨gr,hv,q_0,q_1⟩ hb=>⟨gr,hv,q_0.kept hb,q_1⟩
 | 53,_=>exact fun _ _ _ ⟨a0,n0,c0,k0,m0,e0,hv,q_0,q_1⟩ hb=>⟨a0,n0,c0,k0,m0,e0,hv,q_0.kept hb,q_1⟩
 | 54,_=>exact fun _ _ _ ⟨a0,n0,c0,k0,m0,e0,q_0,q_1,q_2⟩ hb=>⟨a0,n0,c0,k0,m0,e0,below_kept q_0 hb,q_1.kept hb,q_2⟩
 | 55,_=>exact fun _ _ _ q_0 hb=>below_kept q_0 hb
 | 56,_=>exact fun _ _ _ q_0 hb=>below_kept q_0 hb
 | 57,_=>exact fun _ _ _ ⟨q_0,q_1⟩ hb=>⟨q_0.kept hb,q_1⟩
 | 58,_=>exact fun _ _ _ ⟨q_0,q_1⟩ hb=>⟨q_0.kept hb,q_1⟩
 | k+59,hk=>omega
theorem cd4b_st54 (s:CES)(x:CE)(am:Option Addr)(cm:Nat)(ao:Option Addr)(cc:Nat)(L R G B:Nat){W W2:World}{cs:Array Value}{fr:Nat × Nat}(hg:W.heap[(G+1)]? = some (.cells cs 75 fr))(ht:Touch ((G+1)) ((G+1)+1) W W2)(k:Nat)(hk:k<59)(hne:k≠54)(hkill:54∉(cd4b s x am cm ao cc L R G (B)).kill k)(v:Value)(hfact:(cd4b s x am cm ao cc L R G (B)).fact k v W):(cd4b s x am cm ao cc L R G (B)).fact k v W2:=by
 match k,hk,hne,hkill,hfact with
 | 0,_,_,_,hq=>exact hq
 | 1,_,_,_,hq=>exact hq
 | 2,_,_,_,⟨a1,n1,c1,k1,m1,e1,hv,q_0,q_1⟩=>exact ⟨a1,n1,c1,k1,m1,e1,hv,q_0.touched ht (by omega),q_1⟩
 | 3,_,_,_,hq=>exact hq
 | 4,_,_,_,hq=>exact hq
 | 5,_,_,_,⟨a2,n2,c2,k2,m2,e2,hv,q_0,q_1⟩=>exact ⟨a2,n2,c2,k2,m2,e2,hv,q_0.touched ht (by omega),q_1⟩
 | 6,_,_,_,hq=>exact hq
 | 7,_,_,_,hq=>exact hq
 | 8,_,_,_,⟨a3,n3,c3,k3,m3,e3,hv,q_0,q_1⟩=>exact ⟨a3,n3,c3,k3,m3,e3,hv,q_0.touched ht (by omega),q_1⟩
 | 9,_,_,_,hq=>exact hq
 | 10,_,_,_,hq=>exact hq
 | 11,_,_,_,⟨a4,n4,c4,k4,m4,e4,hv,q_0,q_1⟩=>exact ⟨a4,n4,c4,k4,m4,e4,hv,q_0.touched ht (by omega),q_1⟩
 | 12,_,_,_,hq=>exact hq
 | 13,_,_,_,hq=>exact hq
 | 14,_,_,_,⟨a5,n5,c5,k5,m5,e5,hv,q_0,q_1⟩=>exact ⟨a5,n5,c5,k5,m5,e5,hv,q_0.touched ht (by omega),q_1⟩
 | 15,_,_,_,hq=>exact hq
 | 16,_,_,_,hq=>exact hq
 | 17,_,_,_,⟨a6,n6,c6,k6,m6,e6,hv,q_0,q_1⟩=>exact ⟨a6,n6,c6,k6,m6,e6,hv,q_0.touched ht (by omega),q_1⟩
 | 18,_,_,_,hq=>exact hq
 | 19,_,_,_,hq=>exact hq
 | 20,_,_,_,⟨a7,n7,c7,k7,m7,e7,hv,q_0,q_1⟩=>exact ⟨a7,n7,c7,k7,m7,e7,hv,q_0.touched ht (by omega),q_1⟩
 | 21,_,_,_,hq=>exact hq
 | 22,_,_,_,hq=>exact hq
 | 23,_,_,_,⟨a8,n8,c8,k8,m8,e8,hv,q_0,q_1⟩=>exact ⟨a8,n8,c8,k8,m8,e8,hv,q_0.touched ht (by omega),q_1⟩
 | 24,_,_,_,hq=>exact hq
 | 25,_,_,_,hq=>exact hq
 | 26,_,_,_,⟨a9,n9,c9,k9,m9,e9,hv,q_0,q_1⟩=>exact ⟨a9,n9,c9,k9,m9,e9,hv,q_0.touched ht (by omega),q_1⟩
 | 27,_,_,_,hq=>exact hq
 | 28,_,_,_,hq=>exact hq
 | 29,_,_,_,⟨a10,n10,c10,k10,m10,e10,hv,q_0,q_1⟩=>exact ⟨a10,n10,c10,k10,m10,e10,hv,q_0.touched ht (by omega),q_1⟩
 | 30,_,_,_,hq=>exact hq
 | 31,_,_,_,hq=>exact hq
 | 32,_,_,_,⟨a11,n11,c11,k11,m11,e11,hv,q_0,q_1⟩=>exact ⟨a11,n11,c11,k11,m11,e11,hv,q_0.touched ht (by omega),q_1⟩
 | 33,_,_,_,hq=>exact hq
 | 34,_,_,_,hq=>exact hq
 | 35,_,_,_,⟨a12,n12,c12,k12,m12,e12,hv,q_0,q_1⟩=>exact ⟨a12,n12,c12,k12,m12,e12,hv,q_0.touched ht (by omega),q_1⟩
 | 36,_,_,_,hq=>exact hq
 | 37,_,_,_,hq=>exact hq
 | 38,_,_,_,⟨a13,n13,c13,k13,m13,e13,hv,q_0,q_1⟩=>exact ⟨a13,n13,c13,k13,m13,e13,hv,q_0.touched ht (by omega),q_1⟩
 | 39,_,_,_,hq=>exact hq
 | 40,_,_,_,⟨a14,n14,c14,k14,m14,e14,hv,q_0,q_1⟩=>exact ⟨a14,n14,c14,k14,m14,e14,hv,q_0.touched ht (by omega),q_1⟩
 | 41,_,_,_,hq=>exact hq
 | 42,_,_,_,hq=>exact hq
 | 43,_,_,_,⟨a15,n15,c15,k15,m15,e15,hv,q_0,q_1⟩=>exact ⟨a15,n15,c15,k15,m15,e15,hv,q_0.touched ht (by omega),q_1⟩
 | 44,_,_,_,hq=>exact hq
 | 45,_,_,_,hq=>exact hq
 | 46,_,_,_,⟨a16,n16,c16,k16,m16,e16,hv,q_0,q_1⟩=>exact ⟨a16,n16,c16,k16,m16,e16,hv,q_0.touched ht (by omega),q_1⟩
 | 47,_,_,_,hq=>exact hq
 | 48,_,_,_,hq=>exact hq
 | 49,_,_,_,⟨a17,n17,c17,k17,m17,e17,hv,q_0,q_1⟩=>exact ⟨a17,n17,c17,k17,m17,e17,hv,q_0.touched ht (by omega),q_1⟩
 | 50,_,_,_,hq=>exact hq
 | 51,_,_,_,⟨a18,n18,c18,k18,m18,e18,hv,q_0,q_1⟩=>exact ⟨a18,n18,c18,k18,m18,e18,hv,q_0.touched ht (by omega),q_1⟩
 | 52,_,_,_,⟨gr,hv,q_0,q_1⟩=>exact ⟨gr,hv,q_0.touched ht (by omega),q_1⟩
 | 53,_,_,_,⟨a0,n0,c0,k0,m0,e0,hv,q_0,q_1⟩=>exact ⟨a0,n0,c0,k0,m0,e0,hv,q_0.touched ht (by omega),q_1⟩
 | 54,_,hne,_,_=>exact absurd rfl hne
 | 55,_,_,_,q_0=>exact box_box q_0 hg (by decide) ht
 | 56,_,_,hkill,_=>exact absurd (List.Mem.head _) hkill
 | 57,_,_,_,⟨q_0,q_1⟩=>exact ⟨q_0.touched ht (by omega),q_1⟩
 | 58,_,_,_,⟨q_0,q_1⟩=>exact ⟨q_0.touched ht (by omega),q_1⟩
 | k+59,hk,_,_,_=>omega
theorem MapS_next (xs:List (Int × Int))(k:Nat)(h:k<xs.length):(xs.take (k+1)).map mapI=(xs.take k).map mapI++[mapI (xs.getD k (0,0))]:=by
 rw [List.take_add_one,List.map_append]
 simp [h]
theorem ExiS_next (xs:List XP)(k:Nat)(h:k<xs.length):(xs.take (k+1)).map exI=(xs.take k).map exI++[exI (xs.getD k default)]:=by
 rw [List.take_add_one,List.map_append]
 simp [h]
theorem l9Body_R (s:CES)(x:CE)(w:World)(h:CER w s x)(hw:CeS s x) :
  Calls Tryz.prog 37 #[.agg #[.int .i64 x.ser,.slice s.a1 s.n1 s.c1,.slice s.a2 s.n2 s.c2,.int .i64 x.frm,.int .i64 x.til,.int .i64 x.key.1,.int .u64 x.key.2.1,.int .i64 x.key.2.2,.bool x.ca,.int .i64 x.room,.int .i64 x.uses,.slice s.a3 s.n3 s.c3,.slice s.a4 s.n4 s.c4,.slice s.a5 s.n5 s.c5,.slice s.a6 s.n6 s.c6,.slice s.a7 s.n7 s.c7,.int .i64 x.need,.int .i64 x.nomap,.int .i64 x.noany,.slice s.a8 s.n8 s.c8,.slice s.a9 s.n9 s.c9]] w fun e w'=>ItR 0 w.heap.size 7 (boxI 1 (ceK x)) e w'∧Below w.heap.size w w':=by
 obtain ⟨i0,hi,hz0,hz1,hz2⟩:=info_parts Tryz.infoIt
 obtain ⟨w1,hw1⟩:∃ w1,w1=(w.alloc (.cells #[.int .i64 x.ser,.slice s.a1 s.n1 s.c1,.slice s.a2 s.n2 s.c2,.int .i64 x.frm,.int .i64 x.til,.int .i64 x.key.1,.int .u64 x.key.2.1,.int .i64 x.key.2.2,.bool x.ca,.int .i64 x.room,.int .i64 x.uses,.slice s.a3 s.n3 s.c3,.slice s.a4 s.n4 s.c4,.slice s.a5 s.n5 s.c5,.slice s.a6 s.n6 s.c6,.slice s.a7 s.n7 s.c7,.int .i64 x.need,.int .i64 x.nomap,.int .i64 x.noany,.slice s.a8 s.n8 s.c8,.slice s.a9 s.n9 s.c9] 46)).alloc (.cells #[.int .i64 0,.int .i64 0,.bool false,.slice none 0 0,.slice none 0 0] 75):=⟨_,rfl⟩
 have hbx:Below w.heap.size w w1:=by rw [hw1]; exact ((Below.refl _ _).alloc (Nat.le_refl _) _).alloc (by simp) _
 have HB1:Hid (_∧_):=two_blocks w (.cells #[.int .i64 x.ser,.slice s.a1 s.n1 s.c1,.slice s.a2 s.n2 s.c2,.int .i64 x.frm,.int .i64 x.til,.int .i64 x.key.1,.int .u64 x.key.2.1,.int .i64 x.key.2.2,.bool x.ca,.int .i64 x.room,.int .i64 x.uses,.slice s.a3 s.n3 s.c3,.slice s.a4 s.n4 s.c4,.slice s.a5 s.n5 s.c5,.slice s.a6 s.n6 s.c6,.slice s.a7 s.n7 s.c7,.int .i64 x.need,.int .i64 x.nomap,.int .i64 x.noany,.slice s.a8 s.n8 s.c8,.slice s.a9 s.n9 s.c9] 46) (.cells #[.int .i64 0,.int .i64 0,.bool false,.slice none 0 0,.slice none 0 0] 75)
 rw [← hw1] at HB1
 have hszl:w.heap.size+1<w1.heap.size:=by rw [hw1]; simp
 have HR:Hid (CER w s x):=h
 have H7:Hid (Pms w1 s.a7 s.n7 x.maps):=h.r7.kept hbx
 have HL7:Hid (x.maps.length=s.n7):=h.r7.len
 have HL8:Hid (x.ext.length=s.n8):=h.r8.len
 have HCS:Hid (CeS s x):=hw
 have hn7:=hw.l7
 have hn8:=hw.l8
 have HW:Hid (_=_):=hw1
 have hbE:Below w1.heap.size w1 (w1.alloc (.cells #[] 75)):=(Below.refl _ _).alloc (Nat.le_refl _) _
 have HO0:Hid (OwnItZ 2 0 w1.heap.size (w1.alloc (.cells #[] 75)) (some ⟨w1.heap.size,0,none⟩) 0 0 ((x.maps.take 0).map mapI)):=ownItZ_empty 2 0 w1
 have x15:w1.cell? ⟨w.heap.size,15,none⟩=some (.slice s.a7 s.n7 s.c7):=(cell_of_row _ _ 15 _ _ (0,0) HB1.out.1).trans rfl
 clear h hw1 hw
 go_enter Tryz.func37,Tryz.ntmps37
 go_upto_region 1 with fail
 rw [← HW.out]
 clear HW
 go_wp2
 go_loopw [3,4] (fun o i wr=>∃ (kq:Nat) (ao:Option Addr) (cc:Nat),kq≤s.n7∧i=.int .i64 kq∧o=.slice ao kq cc∧Hid (OwnItZ 2 0 w1.heap.size wr ao kq cc ((x.maps.take kq).map mapI))∧Below w1.heap.size w1 wr) (fun _ i _=>s.n7 - (intOf i).toNat)
 case atStart=>exact ⟨0,_,0,Nat.zero_le _,rfl,rfl,HO0,hbE⟩
 case round =>
  obtain ⟨kq,ao,cc,hk,rfl,rfl,HO,hbr⟩:=hrel
  have hws:=hbr.size
  clear x15
  have HBR:Hid (wr.heap[w.heap.size]? = some (.cells #[.int .i64 x.ser,.slice s.a1 s.n1 s.c1,.slice s.a2 s.n2 s.c2,.int .i64 x.frm,.int .i64 x.til,.int .i64 x.key.1,.int .u64 x.key.2.1,.int .i64 x.key.2.2,.bool x.ca,.int .i64 x.room,.int .i64 x.uses,.slice s.a3 s.n3 s.c3,.slice s.a4 s.n4 s.c4,.slice s.a5 s.n5 s.c5,.slice s.a6 s.n6 s.c6,.slice s.a7 s.n7 s.c7,.int .i64 x.need,.int .i64 x.nomap,.int .i64 x.noany,.slice s.a8 s.n8 s.c8,.slice s.a9 s.n9 s.c9] 46 (0,0))):=below_kept HB1.out.1 hbr
  have x15:wr.cell? ⟨w.heap.size,15,none⟩=some (.slice s.a7 s.n7 s.c7):=(cell_of_row _ _ 15 _ _ (0,0) HBR.out).trans rfl
  by_cases hkn:kq<s.n7
  ·obtain ⟨b0,off,hA,hlb,e0,e1⟩:=H7.out.get kq hkn
   have HA:Hid (s.a7=some ⟨b0,off,none⟩):=hA
   obtain ⟨y,hy⟩:∃ y,y=x.maps.getD kq (0,0):=⟨_,rfl⟩
   rw [← hy] at e0 e1
   obtain ⟨es0,hes⟩:∃ es0,es0=(x.maps.take kq).map mapI:=⟨_,rfl⟩
   have HXK:Hid ((x.maps.take (kq+1)).map mapI=es0++[mapI y]):=by show _=_; rw [hes,hy]; exact MapS_next x.maps kq (by rw [HL7.out]; exact hkn)
   have HOR:Hid (OwnItZ 2 0 w1.heap.size wr ao kq cc es0):=by show OwnItZ _ _ _ _ _ _ _ _; rw [hes]; exact HO.out
   have HOWN:Hid (∀ b,(Value.slice ao kq cc).ownBlock=some b→0≤b∧b<wr.heap.size):=fun b hb=>by obtain ⟨vs0,hv0⟩:=HO.out.row; exact ⟨Nat.zero_le _,(hv0.lt b hb).2⟩
   have HNG:Hid (∀ b,(Value.slice ao kq cc).ownBlock=some b→b≠w.heap.size):=fun b hb=>by have:=HO.out.2 b hb; omega
   have HCE0:Hid (∀ W,Below w1.heap.size wr W→W.cell? ⟨b0,off+kq * 2,none⟩=some (.int .i64 y.1)):=fun W hW=>((hbr.trans hW).cell (p:=⟨b0,off+kq * 2,none⟩) hlb).trans e0
   have HCE1:Hid (∀ W,Below w1.heap.size wr W→W.cell? ⟨b0,off+kq * 2+1,none⟩=some (.int .i64 y.2)):=fun W hW=>((hbr.trans hW).cell (p:=⟨b0,off+kq * 2+1,none⟩) hlb).trans e1
   have HBB:w1.heap.size≤wr.heap.size:=hws
   have HQR:w1.heap.size≤wr.heap.size:=hws
   have hkni:(kq:Int)<(s.n7:Int):=by omega
   clear hy e0 e1 hes HO hA
   go_upto_region 5 with fail
   clear x15
   obtain ⟨wq,hwq⟩:∃ wq,wq=wr:=⟨_,rfl⟩
   rw [← hwq] at HBR HOR HOWN HCE0 HCE1 HBB HQR hbr hws ⊢
   clear hwq
   refine wp_region_ri (cd4m s x y b0 off ao kq cc es0 wq.heap.size w1.heap.size w.heap.size (w1.heap.size)) [3,15,16,17,18,19,20,21,22,23,24,25,26,27,28,29,30,31,32,33] (w1.heap.size) (fun a0=>a0.tmps.size=122∧aT a0 1=.pointer (some ⟨w.heap.size,0,none⟩)∧aT a0 4=.int .i64 (kq:Int)) (by kernel_rfl) rfl (by kernel_rfl) rfl ⟨rfl,rfl,rfl⟩ (cd4m_stb s x y b0 off ao kq cc es0 wq.heap.size w1.heap.size w.heap.size (w1.heap.size)) ?_ ?_ ?_
   ·intro k hk hk2
    match k,hk,hk2 with
    | 20,_,_=>exact HBR.out
    | 21,_,_=>exact HOR.out
    | 22,_,_=>exact rfl
    | 0,hk,_=>exact absurd hk (by show ¬ (20≤0); omega)
    | 1,hk,_=>exact absurd hk (by show ¬ (20≤1); omega)
    | 2,hk,_=>exact absurd hk (by show ¬ (20≤2); omega)
    | 3,hk,_=>exact absurd hk (by show ¬ (20≤3); omega)
    | 4,hk,_=>exact absurd hk (by show ¬ (20≤4); omega)
    | 5,hk,_=>exact absurd hk (by show ¬ (20≤5); omega)
    | 6,hk,_=>exact absurd hk (by show ¬ (20≤6); omega)
    | 7,hk,_=>exact absurd hk (by show ¬ (20≤7); omega)
    | 8,hk,_=>exact absurd hk (by show ¬ (20≤8); omega)
    | 9,hk,_=>exact absurd hk (by show ¬ (20≤9); omega)
    | 10,hk,_=>exact absurd hk (by show ¬ (20≤10); omega)
    | 11,hk,_=>exact absurd hk (by show ¬ (20≤11); omega)
    | 12,hk,_=>exact absurd hk (by show ¬ (20≤12); omega)
    | 13,hk,_=>exact absurd hk (by show ¬ (20≤13); omega)
    | 14,hk,_=>exact absurd hk (by show ¬ (20≤14); omega)
    | 15,hk,_=>exact absurd hk (by show ¬ (20≤15); omega)
    | 16,hk,_=>exact absurd hk (by show ¬ (20≤16); omega)
    | 17,hk,_=>exact absurd hk (by show ¬ (20≤17); omega)
    | 18,hk,_=>exact absurd hk (by show ¬ (20≤18); omega)
    | 19,hk,_=>exact absurd hk (by show ¬ (20≤19); omega)
    | k+23,_,hk2=>exact absurd hk2 (by show ¬ (k+23<23); omega)
   ·rintro a0 ⟨hz,g1,g4⟩
    refine StepsRI.cons ?_ (StepsRI.cons ?_ (StepsRI.cons ?_ (StepsRI.cons ?_ (StepsRI.cons ?_ (StepsRI.cons ?_ (StepsRI.cons ?_ (StepsRI.cons ?_ (StepsRI.cons ?_ (StepsRI.cons ?_ (StepsRI.cons ?_ (StepsRI.cons ?_ (StepsRI.cons ?_ (StepsRI.cons ?_ (StepsRI.cons ?_ (StepsRI.cons ?_ (StepsRI.cons ?_ (StepsRI.cons ?_ (StepsRI.cons ?_ (StepsRI.cons ?_ (StepsRI.nil))))))))))))))))))))
    ·intro lQ b W hI hUN hED KQ hKQ
     have huA:lQ 19=false:=unT fun h=>by
      have h2:=hI.cl 18 (of_decide_eq_true rfl) (hI.cl 19 (of_decide_eq_true rfl) h 18 (List.Mem.head _)) 0 (List.Mem.head _)
      rw [show lQ 0=false from hUN] at h2
      cases h2
     have f:aT b 3=.slice ao kq cc:=hI.vot1 22 19 (of_decide_eq_true rfl) (of_decide_eq_true rfl) huA rfl
     exact opw_move 3 rfl (hKQ.out _ _ (hI.put 0 15 rfl rfl (by rw [hz]; decide) rfl hUN rfl HBB (cd4m_stb s x y b0 off ao kq cc es0 wq.heap.size w1.heap.size w.heap.size (w1.heap.size)) (Below.refl _ _) f))
    ·intro lQ b W hI hUN hED KQ hKQ
     exact opw_field 46 1 13 rfl _ ((hI.fr.same 1 (by decide)).trans g1) _ (by kernel_rfl) (hKQ.out _ _ (hI.put 1 16 rfl rfl (by rw [hz]; decide) rfl hUN rfl HBB (cd4m_stb s x y b0 off ao kq cc es0 wq.heap.size w1.heap.size w.heap.size (w1.heap.size)) (Below.refl _ _) rfl))
    ·intro lQ b W hI hUN hED KQ hKQ
     have f:=hI.got 1 (of_decide_eq_true rfl) (edge hED 1 (by kernel_rfl)) rfl
     have hg:=(hI.vot 20 (of_decide_eq_true rfl) (of_decide_eq_true rfl) rfl)
     have hc:W.cell? ⟨w.heap.size,15,none⟩=some (.slice s.a7 s.n7 s.c7):=(cell_of_row _ _ 15 _ _ (0,0) hg).trans rfl
     exact opw_load1 43 16 rfl _ f _ (by simp [Instr.loadAt,go_sem,hc]) (hKQ.out _ _ (hI.put 2 17 rfl rfl (by rw [hz]; decide) rfl hUN rfl HBB (cd4m_stb s x y b0 off ao kq cc es0 wq.heap.size w1.heap.size w.heap.size (w1.heap.size)) (Below.refl _ _) rfl))
    ·intro lQ b W hI hUN hED KQ hKQ
     exact opw_move 4 rfl (hKQ.out _ _ (hI.put 3 18 rfl rfl (by rw [hz]; decide) rfl hUN rfl HBB (cd4m_stb s x y b0 off ao kq cc es0 wq.heap.size w1.heap.size w.heap.size (w1.heap.size)) (Below.refl _ _) ((hI.fr.same 4 (by decide)).trans g4)))
    ·intro lQ b W hI hUN hED KQ hKQ
     have f0:aT b 17=.slice (some ⟨b0,off,none⟩) s.n7 s.c7:=(hI.got 2 (of_decide_eq_true rfl) (edge hED 2 (by kernel_rfl)) rfl).trans (by rw [HA.out])
     have f1:aT b 18=.int .i64 (kq:Int):=hI.got 3 (of_decide_eq_true rfl) (edge hED 3 (by kernel_rfl)) rfl
     exact opw_indexY 43 17 18 rfl _ _ f0 f1 _ (indexPolMap b0 off s.n7 s.c7 kq W hkn) (hKQ.out _ _ (hI.put 4 19 rfl rfl (by rw [hz]; decide) rfl hUN rfl HBB (cd4m_stb s x y b0 off ao kq cc es0 wq.heap.size w1.heap.size w.heap.size (w1.heap.size)) (Below.refl _ _) rfl))
    ·intro lQ b W hI hUN hED KQ hKQ
     have f:aT b 19=.pointer (some ⟨b0,off+kq * 2,none⟩):=hI.got 4 (of_decide_eq_true rfl) (edge hED 4 (by kernel_rfl)) rfl
     exact opw_field 115 19 0 rfl _ f (.pointer (some ⟨b0,off+kq * 2,none⟩)) (by kernel_rfl) (hKQ.out _ _ (hI.put 5 20 rfl rfl (by rw [hz]; decide) rfl hUN rfl HBB (cd4m_stb s x y b0 off ao kq cc es0 wq.heap.size w1.heap.size w.heap.size (w1.heap.size)) (Below.refl _ _) rfl))
    ·intro lQ b W hI hUN hED KQ hKQ
     have f:aT b 20=.pointer (some ⟨b0,off+kq * 2,none⟩):=hI.got 5 (of_decide_eq_true rfl) (edge hED 5 (by kernel_rfl)) rfl
     have hc:W.cell? ⟨b0,off+kq * 2,none⟩=some (.int .i64 y.1):=HCE0.out W hI.bel
     exact opw_load1 2 20 rfl _ f _ (by simp [Instr.loadAt,go_sem,hc]) (hKQ.out _ _ (hI.put 6 21 rfl rfl (by rw [hz]; decide) rfl hUN rfl HBB (cd4m_stb s x y b0 off ao kq cc es0 wq.heap.size w1.heap.size w.heap.size (w1.heap.size)) (Below.refl _ _) rfl))
    ·intro lQ b W hI hUN hED KQ hKQ
     have f0:aT b 21=.int .i64 y.1:=hI.got 6 (of_decide_eq_true rfl) (edge hED 6 (by kernel_rfl)) rfl
     refine opw_call 81 #[.tmp 21] _ _ _ rfl Tryz.func81 (by kernel_rfl) rfl #[.int .i64 y.1] (by simp [ev,f0]) ?_
     refine (l9Num_R y.1 0 W).mono ?_
     rintro r W2 ⟨⟨a1,n1,c1,k1,m1,e1,rfl,hzI⟩,hb⟩
     exact ⟨_,rfl,hKQ.out _ _ (hI.put 7 22 rfl rfl (by rw [hz]; decide) rfl hUN rfl HBB (cd4m_stb s x y b0 off ao kq cc es0 wq.heap.size w1.heap.size w.heap.size (w1.heap.size)) hb ⟨a1,n1,c1,k1,m1,e1,rfl,((hzI.mono hI.bel.size).le (by decide))⟩)⟩
    ·intro lQ b W hI hUN hED KQ hKQ
     exact opw_field 46 1 13 rfl _ ((hI.fr.same 1 (by decide)).trans g1) _ (by kernel_rfl) (hKQ.out _ _ (hI.put 8 23 rfl rfl (by rw [hz]; decide) rfl hUN rfl HBB (cd4m_stb s x y b0 off ao kq cc es0 wq.heap.size w1.heap.size w.heap.size (w1.heap.size)) (Below.refl _ _) rfl))
    ·intro lQ b W hI hUN hED KQ hKQ
     have f:=hI.got 8 (of_decide_eq_true rfl) (edge hED 8 (by kernel_rfl)) rfl
     have hg:=(hI.vot 20 (of_decide_eq_true rfl) (of_decide_eq_true rfl) rfl)
     have hc:W.cell? ⟨w.heap.size,15,none⟩=some (.slice s.a7 s.n7 s.c7):=(cell_of_row _ _ 15 _ _ (0,0) hg).trans rfl
     exact opw_load1 43 23 rfl _ f _ (by simp [Instr.loadAt,go_sem,hc]) (hKQ.out _ _ (hI.put 9 24 rfl rfl (by rw [hz]; decide) rfl hUN rfl HBB (cd4m_stb s x y b0 off ao kq cc es0 wq.heap.size w1.heap.size w.heap.size (w1.heap.size)) (Below.refl _ _) rfl))
    ·intro lQ b W hI hUN hED KQ hKQ
     exact opw_move 4 rfl (hKQ.out _ _ (hI.put 10 25 rfl rfl (by rw [hz]; decide) rfl hUN rfl HBB (cd4m_stb s x y b0 off ao kq cc es0 wq.heap.size w1.heap.size w.heap.size (w1.heap.size)) (Below.refl _ _) ((hI.fr.same 4 (by decide)).trans g4)))
    ·intro lQ b W hI hUN hED KQ hKQ
     have f0:aT b 24=.slice (some ⟨b0,off,none⟩) s.n7 s.c7:=(hI.got 9 (of_decide_eq_true rfl) (edge hED 9 (by kernel_rfl)) rfl).trans (by rw [HA.out])
     have f1:aT b 25=.int .i64 (kq:Int):=hI.got 10 (of_decide_eq_true rfl) (edge hED 10 (by kernel_rfl)) rfl
     exact opw_indexY 43 24 25 rfl _ _ f0 f1 _ (indexPolMap b0 off s.n7 s.c7 kq W hkn) (hKQ.out _ _ (hI.put 11 26 rfl rfl (by rw [hz]; decide) rfl hUN rfl HBB (cd4m_stb s x y b0 off ao kq cc es0 wq.heap.size w1.heap.size w.heap.size (w1.heap.size)) (Below.refl _ _) rfl))
    ·intro lQ b W hI hUN hED KQ hKQ
     have f:aT b 26=.pointer (some ⟨b0,off+kq * 2,none⟩):=hI.got 11 (of_decide_eq_true rfl) (edge hED 11 (by kernel_rfl)) rfl
     exact opw_field 115 26 1 rfl _ f (.pointer (some ⟨b0,off+kq * 2+1,none⟩)) (by kernel_rfl) (hKQ.out _ _ (hI.put 12 27 rfl rfl (by rw [hz]; decide) rfl hUN rfl HBB (cd4m_stb s x y b0 off ao kq cc es0 wq.heap.size w1.heap.size w.heap.size (w1.heap.size)) (Below.refl _ _) rfl))
    ·intro lQ b W hI hUN hED KQ hKQ
     have f:aT b 27=.pointer (some ⟨b0,off+kq * 2+1,none⟩):=hI.got 12 (of_decide_eq_true rfl) (edge hED 12 (by kernel_rfl)) rfl
     have hc:W.cell? ⟨b0,off+kq * 2+1,none⟩=some (.int .i64 y.2):=HCE1.out W hI.bel
     exact opw_load1 2 27 rfl _ f _ (by simp [Instr.loadAt,go_sem,hc]) (hKQ.out _ _ (hI.put 13 28 rfl rfl (by rw [hz]; decide) rfl hUN rfl HBB (cd4m_stb s x y b0 off ao kq cc es0 wq.heap.size w1.heap.size w.heap.size (w1.heap.size)) (Below.refl _ _) rfl))
    ·intro lQ b W hI hUN hED KQ hKQ
     have f0:aT b 28=.int .i64 y.2:=hI.got 13 (of_decide_eq_true rfl) (edge hED 13 (by kernel_rfl)) rfl
     refine opw_call 81 #[.tmp 28] _ _ _ rfl Tryz.func81 (by kernel_rfl) rfl #[.int .i64 y.2] (by simp [ev,f0]) ?_
     refine (l9Num_R y.2 0 W).mono ?_
     rintro r W2 ⟨⟨a2,n2,c2,k2,m2,e2,rfl,hzI⟩,hb⟩
     exact ⟨_,rfl,hKQ.out _ _ (hI.put 14 29 rfl rfl (by rw [hz]; decide) rfl hUN rfl HBB (cd4m_stb s x y b0 off ao kq cc es0 wq.heap.size w1.heap.size w.heap.size (w1.heap.size)) hb ⟨a2,n2,c2,k2,m2,e2,rfl,((hzI.mono hI.bel.size).le (by decide))⟩)⟩
    ·intro lQ b W hI hUN hED KQ hKQ
     obtain ⟨a1,n1,c1,k1,m1,e1,f1,o1⟩:=hI.got 7 (of_decide_eq_true rfl) (edge hED 7 (by kernel_rfl)) rfl
     replace f1:aT b 22=.agg #[.int .i64 (numI y.1).cls,.int .i64 (numI y.1).tag,.bool (numI y.1).cons,.slice a1 n1 c1,.slice k1 m1 e1]:=f1
     obtain ⟨a2,n2,c2,k2,m2,e2,f2,o2⟩:=hI.got 14 (of_decide_eq_true rfl) (edge hED 14 (by kernel_rfl)) rfl
     replace f2:aT b 29=.agg #[.int .i64 (numI y.2).cls,.int .i64 (numI y.2).tag,.bool (numI y.2).cons,.slice a2 n2 c2,.slice k2 m2 e2]:=f2
     refine opw_buildSliceT _ 2 _ rfl #[(0,.agg #[.int .i64 (numI y.1).cls,.int .i64 (numI y.1).tag,.bool (numI y.1).cons,.slice a1 n1 c1,.slice k1 m1 e1]),(1,.agg #[.int .i64 (numI y.2).cls,.int .i64 (numI y.2).tag,.bool (numI y.2).cons,.slice a2 n2 c2,.slice k2 m2 e2])] (by simp [ev,f1,f2]) (.slice (some ⟨W.heap.size,0,none⟩) 2 2) (W.alloc (.cells #[.int .i64 (numI y.1).cls,.int .i64 (numI y.1).tag,.bool (numI y.1).cons,.slice a1 n1 c1,.slice k1 m1 e1,.int .i64 (numI y.2).cls,.int .i64 (numI y.2).tag,.bool (numI y.2).cons,.slice a2 n2 c2,.slice k2 m2 e2] 75)) (by kernel_rfl) ?_
     exact hKQ.out _ _ (hI.put 15 30 rfl rfl (by rw [hz]; decide) rfl hUN rfl HBB (cd4m_stb s x y b0 off ao kq cc es0 wq.heap.size w1.heap.size w.heap.size (w1.heap.size)) ((Below.refl _ _).alloc (Nat.le_refl _) _) ⟨W.heap.size,rfl,kidZ_n2 hI.bel.size o1 o2⟩)
    ·intro lQ b W hI hUN hED KQ hKQ
     obtain ⟨gr,f0,o0⟩:=hI.got 15 (of_decide_eq_true rfl) (edge hED 15 (by kernel_rfl)) rfl
     replace f0:aT b 30=.slice (some ⟨gr,0,none⟩) 2 2:=f0
     refine opw_call 80 #[.tmp 30] _ _ _ rfl Tryz.func80 (by kernel_rfl) rfl #[.slice (some ⟨gr,0,none⟩) 2 2] (by simp [ev,f0]) ?_
     refine (l9Struct_R o0 rfl).mono ?_
     rintro r W2 ⟨⟨a0,n0,c0,k0,m0,e0,rfl,hzI⟩,hb⟩
     exact ⟨_,rfl,hKQ.out _ _ (hI.put 16 31 rfl rfl (by rw [hz]; decide) rfl hUN rfl HBB (cd4m_stb s x y b0 off ao kq cc es0 wq.heap.size w1.heap.size w.heap.size (w1.heap.size)) hb ⟨a0,n0,c0,k0,m0,e0,rfl,hzI⟩)⟩
    ·intro lQ b W hI hUN hED KQ hKQ
     obtain ⟨a0,n0,c0,k0,m0,e0,f0,o0⟩:=hI.got 16 (of_decide_eq_true rfl) (edge hED 16 (by kernel_rfl)) rfl
     replace f0:aT b 31=.agg #[.int .i64 (mapI y).cls,.int .i64 (mapI y).tag,.bool (mapI y).cons,.slice a0 n0 c0,.slice k0 m0 e0]:=f0
     refine opw_buildSliceT _ 1 _ rfl #[(0,.agg #[.int .i64 (mapI y).cls,.int .i64 (mapI y).tag,.bool (mapI y).cons,.slice a0 n0 c0,.slice k0 m0 e0])] (by simp [ev,f0]) (.slice (some ⟨W.heap.size,0,none⟩) 1 1) (W.alloc (.cells #[.int .i64 (mapI y).cls,.int .i64 (mapI y).tag,.bool (mapI y).cons,.slice a0 n0 c0,.slice k0 m0 e0] 75)) (by kernel_rfl) ?_
     have hbA:Below W.heap.size W (W.alloc (.cells #[.int .i64 (mapI y).cls,.int .i64 (mapI y).tag,.bool (mapI y).cons,.slice a0 n0 c0,.slice k0 m0 e0] 75)):=(Below.refl _ _).alloc (Nat.le_refl _) _
     exact hKQ.out _ _ (hI.put 17 32 rfl rfl (by rw [hz]; decide) rfl hUN rfl HBB (cd4m_stb s x y b0 off ao kq cc es0 wq.heap.size w1.heap.size w.heap.size (w1.heap.size)) hbA ⟨W.heap.size,a0,n0,c0,k0,m0,e0,rfl,heap_alloc_new W _,o0.kept hbA,hI.bel.size⟩)
    ·intro lQ b W hI hUN hED KQ hKQ
     obtain ⟨g8,a0,n0,c0,k0,m0,e0,f1,hg8,o1,_⟩:=hI.got 17 (of_decide_eq_true rfl) (edge hED 17 (by kernel_rfl)) rfl
     have f0:aT b 15=.slice ao kq cc:=hI.got 0 (of_decide_eq_true rfl) (edge hED 0 (by kernel_rfl)) rfl
     have hits:OwnItZ 2 0 w1.heap.size W ao kq cc es0:=hI.vot1 21 18 (of_decide_eq_true rfl) (of_decide_eq_true rfl) hUN rfl
     replace f1:aT b 32=.slice (some ⟨g8,0,none⟩) 1 1:=f1
     obtain ⟨vs,hrow⟩:=hits.row
     have hWs:=hI.bel.size
     refine wp_append_lies W (.tmp 15) (.tmp 32) 73 rfl 0 75 i0 _ 5 72 Tryz.underlying73 hi hz0 hz1 hz2 rfl (by decide) (.slice ao kq cc) kq vs f0 hrow ⟨g8,0,none⟩ 1 1 [.int .i64 (mapI y).cls,.int .i64 (mapI y).tag,.bool (mapI y).cons,.slice a0 n0 c0,.slice k0 m0 e0] f1 rfl (World.news_of_block hg8) (by intro u hu; simp only [List.mem_cons,List.not_mem_nil,or_false] at hu; rcases hu with rfl | rfl | rfl | rfl | rfl <;> rfl) (by decide) (by unfold maxLen; omega) (by omega) (Nat.zero_le _) _ rfl ?_
     intro gf cf w' hv hg hl hlt
     have hnew:OwnItZ 2 0 w1.heap.size w' (some ⟨gf,0,none⟩) (kq+1) cf (es0++[mapI y]):=hits.appended o1.it (fun b hb=>⟨by have:=hb.1; have:=HQR; omega,hb.2,fun e=>by have:=HOWN.out b e; have:=hb.1; omega⟩) (by omega) hrow hv hg hl (by have:=HBB; omega)
     have hb':Below w1.heap.size wq w':=hI.bel.grown hg (by have:=HBB; omega) (fun kx hx=>hits.2 kx hx)
     have hno:lQ 19=true→False:=fun h=>by
      have h2:=hI.cl 19 (of_decide_eq_true rfl) h 18 (List.Mem.head _)
      rw [show lQ 18=false from hUN] at h2
      cases h2
     refine hKQ.out _ _ (hI.turn 18 33 (fun j hj=>by rcases List.mem_singleton.1 hj with rfl; exact edge hED 0 (by kernel_rfl)) rfl (by rw [hz]; decide) rfl hUN rfl hb' ?_ ⟨gf,cf,rfl,hnew⟩)
     intro kx hkx hne hlk hkill u hu
     match kx,hkx,hne,hkill,hu with
      | 0,_,_,_,hu=>exact hu
      | 1,_,_,_,hu=>exact hu
      | 2,_,_,_,hu=>exact hu
      | 3,_,_,_,hu=>exact hu
      | 4,_,_,_,hu=>exact hu
      | 5,_,_,_,hu=>exact hu
      | 6,_,_,_,hu=>exact hu
      | 7,_,_,_,⟨a1,n1,c1,k1,m1,e1,hv,q_0⟩=>exact ⟨a1,n1,c1,k1,m1,e1,hv,q_0.grown hg (fun j hj=>HOWN.out j hj)⟩
      | 8,_,_,_,hu=>exact hu
      | 9,_,_,_,hu=>exact hu
      | 10,_,_,_,hu=>exact hu
      | 11,_,_,_,hu=>exact hu
      | 12,_,_,_,hu=>exact hu
      | 13,_,_,_,hu=>exact hu
      | 14,_,_,_,⟨a2,n2,c2,k2,m2,e2,hv,q_0⟩=>exact ⟨a2,n2,c2,k2,m2,e2,hv,q_0.grown hg (fun j hj=>HOWN.out j hj)⟩
      | 15,_,_,_,⟨gr,hv,q_0⟩=>exact ⟨gr,hv,q_0.grown hg (fun j hj=>HOWN.out j hj)⟩
      | 16,_,_,_,⟨a0,n0,c0,k0,m0,e0,hv,q_0⟩=>exact ⟨a0,n0,c0,k0,m0,e0,hv,q_0.grown hg (fun j hj=>HOWN.out j hj)⟩
      | 17,_,_,_,⟨g8,a0,n0,c0,k0,m0,e0,hv,q_0,q_1,q_2⟩=>exact ⟨g8,a0,n0,c0,k0,m0,e0,hv,(hg.block _ (Array.getElem?_eq_some_iff.1 q_0).1 (fun e=>by have:=(HOWN.out _ e.symm).2; omega)).trans q_0,q_1.grown hg (fun j hj=>HOWN.out j hj),q_2⟩
      | 18,_,hne,_,_=>exact absurd rfl hne
      | 19,_,_,hkill,hu=>exact (hno hlk).elim
      | 20,_,_,_,hu=>exact (hg.block _ (Array.getElem?_eq_some_iff.1 hu).1 (fun e=>HNG.out _ e.symm rfl)).trans hu
      | 21,_,_,hkill,_=>exact absurd (hkill 18 (List.Mem.head _)) (by rw [upd_same]; decide)
      | 22,_,_,_,hu=>exact hu
      | kx+23,hkx,_,_,_=>exact absurd hkx (by show ¬ (kx+23<23); omega)
    ·intro lQ b W hI hUN hED KQ hKQ
     have f:=hI.got 18 (of_decide_eq_true rfl) (edge hED 18 (by kernel_rfl)) rfl
     obtain ⟨gf,cf,f0,o0⟩:=f
     replace f0:aT b 33=.slice (some ⟨gf,0,none⟩) (kq+1) cf:=f0
     refine opw_assign 33 rfl ?_
     rw [f0]
     exact hKQ.out _ _ (hI.putp 19 3 (fun j hj=>by rcases List.mem_singleton.1 hj with rfl; exact edge hED 18 (by kernel_rfl)) rfl (by rw [hz]; decide) rfl hUN rfl HBB (cd4m_stb s x y b0 off ao kq cc es0 wq.heap.size w1.heap.size w.heap.size (w1.heap.size)) (Below.refl _ _) ⟨gf,cf,rfl,o0⟩)
   ·intro b W hf hb F
    obtain ⟨gf,cf,e3,hits⟩:=F 19 (of_decide_eq_true rfl) rfl
    replace e3:aT b 3=_:=e3
    rw [hf.eq]
    simp only [puts,Act.put,List.setIfInBounds_toArray,List.set_cons_zero,List.set_cons_succ,e3]
    clear hf F e3
    generalize aT b=AT
    clear b
    have HO7:Hid (OwnItZ 2 0 w1.heap.size W (some ⟨gf,0,none⟩) (kq+1) cf ((x.maps.take (kq+1)).map mapI)):=by show OwnItZ _ _ _ _ _ _ _ _; rw [HXK.out]; exact hits
    have B7:Below w1.heap.size w1 W:=hbr.trans hb
    clear hits
    go_wp2
    go_roundw
    case rel=>exact ⟨kq+1,_,cf,by omega,by go_num,rfl,HO7,B7⟩
    case measure=>simp [intOf]; omega
  ·obtain rfl:kq=s.n7:=by omega
   obtain ⟨w2,hw2⟩:∃ w2,w2=wr:=⟨_,rfl⟩
   have HLM:Hid (ListZ 0 w1.heap.size 3 w2 ao s.n7 (x.maps.map mapI)):=⟨by
    have:=HO.out.kids
    rw [List.take_of_length_le (by rw [HL7.out]; exact Nat.le_refl _),← hw2] at this
    exact this⟩
   have hb12:Below w1.heap.size w1 w2:=by rw [hw2]; exact hbr
   have hws2:w1.heap.size≤w2.heap.size:=hb12.size
   have HB2:Hid (w2.heap[w.heap.size]? = some (.cells #[.int .i64 x.ser,.slice s.a1 s.n1 s.c1,.slice s.a2 s.n2 s.c2,.int .i64 x.frm,.int .i64 x.til,.int .i64 x.key.1,.int .u64 x.key.2.1,.int .i64 x.key.2.2,.bool x.ca,.int .i64 x.room,.int .i64 x.uses,.slice s.a3 s.n3 s.c3,.slice s.a4 s.n4 s.c4,.slice s.a5 s.n5 s.c5,.slice s.a6 s.n6 s.c6,.slice s.a7 s.n7 s.c7,.int .i64 x.need,.int .i64 x.nomap,.int .i64 x.noany,.slice s.a8 s.n8 s.c8,.slice s.a9 s.n9 s.c9] 46 (0,0))):=below_kept HB1.out.1 hb12
   have H8:Hid (XPs w2 s.a8 s.n8 x.ext):=HR.out.r8.kept (keepT hbx hb12)
   have HVS:Hid (∀ k,k<s.n8→(x.ext.getD k default).val.length≤1000):=HCS.out.ext
   have hbE2:Below w2.heap.size w2 (w2.alloc (.cells #[] 75)):=(Below.refl _ _).alloc (Nat.le_refl _) _
   have HO2:Hid (OwnItZ 2 0 w2.heap.size (w2.alloc (.cells #[] 75)) (some ⟨w2.heap.size,0,none⟩) 0 0 ((x.ext.take 0).map exI)):=ownItZ_empty 2 0 w2
   have x19:w2.cell? ⟨w.heap.size,19,none⟩=some (.slice s.a8 s.n8 s.c8):=(cell_of_row _ _ 19 _ _ (0,0) HB2.out).trans rfl
   obtain ⟨am,ham⟩:∃ am,am=ao:=⟨_,rfl⟩
   obtain ⟨cm,hcm⟩:∃ cm,cm=cc:=⟨_,rfl⟩
   have hnn:¬ ((s.n7:Int)<(s.n7:Int)):=by omega
   rw [← hw2] at x15 ⊢
   rw [← ham,← hcm]
   rw [← ham] at HLM
   clear HO hbr hws HBR hw2 ham hcm
   go_wp2
   clear x15
   go_loopw [5,6] (fun o i wr=>∃ (kq:Nat) (ao:Option Addr) (cc:Nat),kq≤s.n8∧i=.int .i64 kq∧o=.slice ao kq cc∧Hid (OwnItZ 2 0 w2.heap.size wr ao kq cc ((x.ext.take kq).map exI))∧Below w2.heap.size w2 wr) (fun _ i _=>s.n8 - (intOf i).toNat)
   case atStart=>exact ⟨0,_,0,Nat.zero_le _,rfl,rfl,HO2,hbE2⟩
   case round =>
    obtain ⟨kq,ao,cc,hk,rfl,rfl,HO,hbr⟩:=hrel
    have hws:=hbr.size
    clear x19
    have HBR:Hid (wr.heap[w.heap.size]? = some (.cells #[.int .i64 x.ser,.slice s.a1 s.n1 s.c1,.slice s.a2 s.n2 s.c2,.int .i64 x.frm,.int .i64 x.til,.int .i64 x.key.1,.int .u64 x.key.2.1,.int .i64 x.key.2.2,.bool x.ca,.int .i64 x.room,.int .i64 x.uses,.slice s.a3 s.n3 s.c3,.slice s.a4 s.n4 s.c4,.slice s.a5 s.n5 s.c5,.slice s.a6 s.n6 s.c6,.slice s.a7 s.n7 s.c7,.int .i64 x.need,.int .i64 x.nomap,.int .i64 x.noany,.slice s.a8 s.n8 s.c8,.slice s.a9 s.n9 s.c9] 46 (0,0))):=below_kept HB2.out hbr
    have x19:wr.cell? ⟨w.heap.size,19,none⟩=some (.slice s.a8 s.n8 s.c8):=(cell_of_row _ _ 19 _ _ (0,0) HBR.out).trans rfl
    by_cases hkn:kq<s.n8
    ·obtain ⟨b0,off,t,hA,hlb,hc,hp⟩:=H8.out.get kq hkn
     have HA:Hid (s.a8=some ⟨b0,off,none⟩):=hA
     obtain ⟨y,hy⟩:∃ y,y=x.ext.getD kq default:=⟨_,rfl⟩
     rw [← hy] at hc hp
     obtain ⟨sa,sn,sc⟩:=t
     have hl9:y.val.length=sn:=hp.r1.len
     have HSV:sn≤1000:=by have:=HVS.out kq hkn; rw [← hy] at this; omega
     have HNL:sa=none→sc=0:=hp.nl1
     obtain ⟨es0,hes⟩:∃ es0,es0=(x.ext.take kq).map exI:=⟨_,rfl⟩
     have HXK:Hid ((x.ext.take (kq+1)).map exI=es0++[exI y]):=by show _=_; rw [hes,hy]; exact ExiS_next x.ext kq (by rw [HL8.out]; exact hkn)
     have HOR:Hid (OwnItZ 2 0 w2.heap.size wr ao kq cc es0):=by show OwnItZ _ _ _ _ _ _ _ _; rw [hes]; exact HO.out
     have HOWN:Hid (∀ b,(Value.slice ao kq cc).ownBlock=some b→0≤b∧b<wr.heap.size):=fun b hb=>by obtain ⟨vs0,hv0⟩:=HO.out.row; exact ⟨Nat.zero_le _,(hv0.lt b hb).2⟩
     have HNG:Hid (∀ b,(Value.slice ao kq cc).ownBlock=some b→b≠w.heap.size):=fun b hb=>by have:=HO.out.2 b hb; omega
     have HCE0:Hid (∀ W,Below w2.heap.size wr W→W.cell? ⟨b0,off+kq * 3,none⟩=some (.int .i64 y.id)):=fun W hW=>((hbr.trans hW).cell (p:=⟨b0,off+kq * 3,none⟩) hlb).trans hc.c0
     have HCE1:Hid (∀ W,Below w2.heap.size wr W→W.cell? ⟨b0,off+kq * 3+1,none⟩=some (.bool y.crit)):=fun W hW=>((hbr.trans hW).cell (p:=⟨b0,off+kq * 3+1,none⟩) hlb).trans hc.c1
     have HCE2:Hid (∀ W,Below w2.heap.size wr W→W.cell? ⟨b0,off+kq * 3+2,none⟩=some (.slice sa sn sc)):=fun W hW=>((hbr.trans hW).cell (p:=⟨b0,off+kq * 3+2,none⟩) hlb).trans hc.c2
     have HRV:Hid (∀ W,Below w2.heap.size wr W→Row W sa sn y.val):=fun W hW=>hp.r1.kept (hbr.trans hW)
     have HBB:w2.heap.size≤wr.heap.size:=hws
     have HQR:w2.heap.size≤wr.heap.size:=hws
     have hkni:(kq:Int)<(s.n8:Int):=by omega
     clear hy hc hp hes HO hA
     go_upto_region 10 with fail
     clear x19
     obtain ⟨wq,hwq⟩:∃ wq,wq=wr:=⟨_,rfl⟩
     rw [← hwq] at HBR HOR HOWN HCE0 HCE1 HCE2 HRV HBB HQR hbr hws ⊢
     clear hwq
     refine wp_region_ri (cd4e s x y sa sn sc b0 off ao kq cc es0 wq.heap.size w2.heap.size w.heap.size (w2.heap.size)) [5,42,43,44,45,46,47,48,49,50,51,52,53,54,55,56,57,58,59,60,61,62,63,64,65,66,67] (w2.heap.size) (fun a0=>a0.tmps.size=122∧aT a0 1=.pointer (some ⟨w.heap.size,0,none⟩)∧aT a0 6=.int .i64 (kq:Int)) (by kernel_rfl) rfl (by kernel_rfl) rfl ⟨rfl,rfl,rfl⟩ (cd4e_stb s x y sa sn sc b0 off ao kq cc es0 wq.heap.size w2.heap.size w.heap.size (w2.heap.size)) ?_ ?_ ?_
     ·intro k hk hk2
      match k,hk,hk2 with
      | 27,_,_=>exact HBR.out
      | 28,_,_=>exact HOR.out
      | 29,_,_=>exact rfl
      | 0,hk,_=>exact absurd hk (by show ¬ (27≤0); omega)
      | 1,hk,_=>exact absurd hk (by show ¬ (27≤1); omega)
      | 2,hk,_=>exact absurd hk (by show ¬ (27≤2); omega)
      | 3,hk,_=>exact absurd hk (by show ¬ (27≤3); omega)
      | 4,hk,_=>exact absurd hk (by show ¬ (27≤4); omega)
      | 5,hk,_=>exact absurd hk (by show ¬ (27≤5); omega)
      | 6,hk,_=>exact absurd hk (by show ¬ (27≤6); omega)
      | 7,hk,_=>exact absurd hk (by show ¬ (27≤7); omega)
      | 8,hk,_=>exact absurd hk (by show ¬ (27≤8); omega)
      | 9,hk,_=>exact absurd hk (by show ¬ (27≤9); omega)
      | 10,hk,_=>exact absurd hk (by show ¬ (27≤10); omega)
      | 11,hk,_=>exact absurd hk (by show ¬ (27≤11); omega)
      | 12,hk,_=>exact absurd hk (by show ¬ (27≤12); omega)
      | 13,hk,_=>exact absurd hk (by show ¬ (27≤13); omega)
      | 14,hk,_=>exact absurd hk (by show ¬ (27≤14); omega)
      | 15,hk,_=>exact absurd hk (by show ¬ (27≤15); omega)
      | 16,hk,_=>exact absurd hk (by show ¬ (27≤16); omega)
      | 17,hk,_=>exact absurd hk (by show ¬ (27≤17); omega)
      | 18,hk,_=>exact absurd hk (by show ¬ (27≤18); omega)
      | 19,hk,_=>exact absurd hk (by show ¬ (27≤19); omega)
      | 20,hk,_=>exact absurd hk (by show ¬ (27≤20); omega)
      | 21,hk,_=>exact absurd hk (by show ¬ (27≤21); omega)
      | 22,hk,_=>exact absurd hk (by show ¬ (27≤22); omega)
      | 23,hk,_=>exact absurd hk (by show ¬ (27≤23); omega)
      | 24,hk,_=>exact absurd hk (by show ¬ (27≤24); omega)
      | 25,hk,_=>exact absurd hk (by show ¬ (27≤25); omega)
      | 26,hk,_=>exact absurd hk (by show ¬ (27≤26); omega)
      | k+30,_,hk2=>exact absurd hk2 (by show ¬ (k+30<30); omega)
     ·rintro a0 ⟨hz,g1,g6⟩
      refine StepsRI.cons ?_ (StepsRI.cons ?_ (StepsRI.cons ?_ (StepsRI.cons ?_ (StepsRI.cons ?_ (StepsRI.cons ?_ (StepsRI.cons ?_ (StepsRI.cons ?_ (StepsRI.cons ?_ (StepsRI.cons ?_ (StepsRI.cons ?_ (StepsRI.cons ?_ (StepsRI.cons ?_ (StepsRI.cons ?_ (StepsRI.cons ?_ (StepsRI.cons ?_ (StepsRI.cons ?_ (StepsRI.cons ?_ (StepsRI.cons ?_ (StepsRI.cons ?_ (StepsRI.cons ?_ (StepsRI.cons ?_ (StepsRI.cons ?_ (StepsRI.cons ?_ (StepsRI.cons ?_ (StepsRI.cons ?_ (StepsRI.cons ?_ (StepsRI.nil)))))))))))))))))))))))))))
      ·intro lQ b W hI hUN hED KQ hKQ
       have huA:lQ 26=false:=unT fun h=>by
        have h2:=hI.cl 25 (of_decide_eq_true rfl) (hI.cl 26 (of_decide_eq_true rfl) h 25 (List.Mem.head _)) 0 (List.Mem.head _)
        rw [show lQ 0=false from hUN] at h2
        cases h2
       have f:aT b 5=.slice ao kq cc:=hI.vot1 29 26 (of_decide_eq_true rfl) (of_decide_eq_true rfl) huA rfl
       exact opw_move 5 rfl (hKQ.out _ _ (hI.put 0 42 rfl rfl (by rw [hz]; decide) rfl hUN rfl HBB (cd4e_stb s x y sa sn sc b0 off ao kq cc es0 wq.heap.size w2.heap.size w.heap.size (w2.heap.size)) (Below.refl _ _) f))
      ·intro lQ b W hI hUN hED KQ hKQ
       exact opw_field 46 1 17 rfl _ ((hI.fr.same 1 (by decide)).trans g1) _ (by kernel_rfl) (hKQ.out _ _ (hI.put 1 43 rfl rfl (by rw [hz]; decide) rfl hUN rfl HBB (cd4e_stb s x y sa sn sc b0 off ao kq cc es0 wq.heap.size w2.heap.size w.heap.size (w2.heap.size)) (Below.refl _ _) rfl))
      ·intro lQ b W hI hUN hED KQ hKQ
       have f:=hI.got 1 (of_decide_eq_true rfl) (edge hED 1 (by kernel_rfl)) rfl
       have hg:=(hI.vot 27 (of_decide_eq_true rfl) (of_decide_eq_true rfl) rfl)
       have hc:W.cell? ⟨w.heap.size,19,none⟩=some (.slice s.a8 s.n8 s.c8):=(cell_of_row _ _ 19 _ _ (0,0) hg).trans rfl
       exact opw_load1 44 43 rfl _ f _ (by simp [Instr.loadAt,go_sem,hc]) (hKQ.out _ _ (hI.put 2 44 rfl rfl (by rw [hz]; decide) rfl hUN rfl HBB (cd4e_stb s x y sa sn sc b0 off ao kq cc es0 wq.heap.size w2.heap.size w.heap.size (w2.heap.size)) (Below.refl _ _) rfl))
      ·intro lQ b W hI hUN hED KQ hKQ
       exact opw_move 6 rfl (hKQ.out _ _ (hI.put 3 45 rfl rfl (by rw [hz]; decide) rfl hUN rfl HBB (cd4e_stb s x y sa sn sc b0 off ao kq cc es0 wq.heap.size w2.heap.size w.heap.size (w2.heap.size)) (Below.refl _ _) ((hI.fr.same 6 (by decide)).trans g6)))
      ·intro lQ b W hI hUN hED KQ hKQ
       have f0:aT b 44=.slice (some ⟨b0,off,none⟩) s.n8 s.c8:=(hI.got 2 (of_decide_eq_true rfl) (edge hED 2 (by kernel_rfl)) rfl).trans (by rw [HA.out])
       have f1:aT b 45=.int .i64 (kq:Int):=hI.got 3 (of_decide_eq_true rfl) (edge hED 3 (by kernel_rfl)) rfl
       exact opw_indexY 44 44 45 rfl _ _ f0 f1 _ (indexExt b0 off s.n8 s.c8 kq W hkn) (hKQ.out _ _ (hI.put 4 46 rfl rfl (by rw [hz]; decide) rfl hUN rfl HBB (cd4e_stb s x y sa sn sc b0 off ao kq cc es0 wq.heap.size w2.heap.size w.heap.size (w2.heap.size)) (Below.refl _ _) rfl))
      ·intro lQ b W hI hUN hED KQ hKQ
       have f:aT b 46=.pointer (some ⟨b0,off+kq * 3,none⟩):=hI.got 4 (of_decide_eq_true rfl) (edge hED 4 (by kernel_rfl)) rfl
       exact opw_field 113 46 0 rfl _ f (.pointer (some ⟨b0,off+kq * 3,none⟩)) (by kernel_rfl) (hKQ.out _ _ (hI.put 5 47 rfl rfl (by rw [hz]; decide) rfl hUN rfl HBB (cd4e_stb s x y sa sn sc b0 off ao kq cc es0 wq.heap.size w2.heap.size w.heap.size (w2.heap.size)) (Below.refl _ _) rfl))
      ·intro lQ b W hI hUN hED KQ hKQ
       have f:aT b 47=.pointer (some ⟨b0,off+kq * 3,none⟩):=hI.got 5 (of_decide_eq_true rfl) (edge hED 5 (by kernel_rfl)) rfl
       have hc:W.cell? ⟨b0,off+kq * 3,none⟩=some (.int .i64 y.id):=HCE0.out W hI.bel
       exact opw_load1 2 47 rfl _ f _ (by simp [Instr.loadAt,go_sem,hc]) (hKQ.out _ _ (hI.put 6 48 rfl rfl (by rw [hz]; decide) rfl hUN rfl HBB (cd4e_stb s x y sa sn sc b0 off ao kq cc es0 wq.heap.size w2.heap.size w.heap.size (w2.heap.size)) (Below.refl _ _) rfl))
      ·intro lQ b W hI hUN hED KQ hKQ
       have f0:aT b 48=.int .i64 y.id:=hI.got 6 (of_decide_eq_true rfl) (edge hED 6 (by kernel_rfl)) rfl
       refine opw_call 81 #[.tmp 48] _ _ _ rfl Tryz.func81 (by kernel_rfl) rfl #[.int .i64 y.id] (by simp [ev,f0]) ?_
       refine (l9Num_R y.id 0 W).mono ?_
       rintro r W2 ⟨⟨a1,n1,c1,k1,m1,e1,rfl,hzI⟩,hb⟩
       exact ⟨_,rfl,hKQ.out _ _ (hI.put 7 49 rfl rfl (by rw [hz]; decide) rfl hUN rfl HBB (cd4e_stb s x y sa sn sc b0 off ao kq cc es0 wq.heap.size w2.heap.size w.heap.size (w2.heap.size)) hb ⟨a1,n1,c1,k1,m1,e1,rfl,((hzI.mono hI.bel.size).le (by decide))⟩)⟩
      ·intro lQ b W hI hUN hED KQ hKQ
       exact opw_field 46 1 17 rfl _ ((hI.fr.same 1 (by decide)).trans g1) _ (by kernel_rfl) (hKQ.out _ _ (hI.put 8 50 rfl rfl (by rw [hz]; decide) rfl hUN rfl HBB (cd4e_stb s x y sa sn sc b0 off ao kq cc es0 wq.heap.size w2.heap.size w.heap.size (w2.heap.size)) (Below.refl _ _) rfl))
      ·intro lQ b W hI hUN hED KQ hKQ
       have f:=hI.got 8 (of_decide_eq_true rfl) (edge hED 8 (by kernel_rfl)) rfl
       have hg:=(hI.vot 27 (of_decide_eq_true rfl) (of_decide_eq_true rfl) rfl)
       have hc:W.cell? ⟨w.heap.size,19,none⟩=some (.slice s.a8 s.n8 s.c8):=(cell_of_row _ _ 19 _ _ (0,0) hg).trans rfl
       exact opw_load1 44 50 rfl _ f _ (by simp [Instr.loadAt,go_sem,hc]) (hKQ.out _ _ (hI.put 9 51 rfl rfl (by rw [hz]; decide) rfl hUN rfl HBB (cd4e_stb s x y sa sn sc b0 off ao kq cc es0 wq.heap.size w2.heap.size w.heap.size (w2.heap.size)) (Below.refl _ _) rfl))
      ·intro lQ b W hI hUN hED KQ hKQ
       exact opw_move 6 rfl (hKQ.out _ _ (hI.put 10 52 rfl rfl (by rw [hz]; decide) rfl hUN rfl HBB (cd4e_stb s x y sa sn sc b0 off ao kq cc es0 wq.heap.size w2.heap.size w.heap.size (w2.heap.size)) (Below.refl _ _) ((hI.fr.same 6 (by decide)).trans g6)))
      ·intro lQ b W hI hUN hED KQ hKQ
       have f0:aT b 51=.slice (some ⟨b0,off,none⟩) s.n8 s.c8:=(hI.got 9 (of_decide_eq_true rfl) (edge hED 9 (by kernel_rfl)) rfl).trans (by rw [HA.out])
       have f1:aT b 52=.int .i64 (kq:Int):=hI.got 10 (of_decide_eq_true rfl) (edge hED 10 (by kernel_rfl)) rfl
       exact opw_indexY 44 51 52 rfl _ _ f0 f1 _ (indexExt b0 off s.n8 s.c8 kq W hkn) (hKQ.out _ _ (hI.put 11 53 rfl rfl (by rw [hz]; decide) rfl hUN rfl HBB (cd4e_stb s x y sa sn sc b0 off ao kq cc es0 wq.heap.size w2.heap.size w.heap.size (w2.heap.size)) (Below.refl _ _) rfl))
      ·intro lQ b W hI hUN hED KQ hKQ
       have f:aT b 53=.pointer (some ⟨b0,off+kq * 3,none⟩):=hI.got 11 (of_decide_eq_true rfl) (edge hED 11 (by kernel_rfl)) rfl
       exact opw_field 113 53 1 rfl _ f (.pointer (some ⟨b0,off+kq * 3+1,none⟩)) (by kernel_rfl) (hKQ.out _ _ (hI.put 12 54 rfl rfl (by rw [hz]; decide) rfl hUN rfl HBB (cd4e_stb s x y sa sn sc b0 off ao kq cc es0 wq.heap.size w2.heap.size w.heap.size (w2.heap.size)) (Below.refl _ _) rfl))
      ·intro lQ b W hI hUN hED KQ hKQ
       have f:aT b 54=.pointer (some ⟨b0,off+kq * 3+1,none⟩):=hI.got 12 (of_decide_eq_true rfl) (edge hED 12 (by kernel_rfl)) rfl
       have hc:W.cell? ⟨b0,off+kq * 3+1,none⟩=some (.bool y.crit):=HCE1.out W hI.bel
       exact opw_load1 4 54 rfl _ f _ (by simp [Instr.loadAt,go_sem,hc]) (hKQ.out _ _ (hI.put 13 55 rfl rfl (by rw [hz]; decide) rfl hUN rfl HBB (cd4e_stb s x y sa sn sc b0 off ao kq cc es0 wq.heap.size w2.heap.size w.heap.size (w2.heap.size)) (Below.refl _ _) rfl))
      ·intro lQ b W hI hUN hED KQ hKQ
       have f0:aT b 55=.bool y.crit:=hI.got 13 (of_decide_eq_true rfl) (edge hED 13 (by kernel_rfl)) rfl
       refine opw_call 82 #[.tmp 55] _ _ _ rfl Tryz.func82 (by kernel_rfl) rfl #[.bool y.crit] (by simp [ev,f0]) ?_
       refine (l9Flag_R y.crit W 0 (Nat.zero_le _)).mono ?_
       rintro r W2 ⟨⟨a2,n2,c2,k2,m2,e2,rfl,hzI⟩,hb⟩
       exact ⟨_,rfl,hKQ.out _ _ (hI.put 14 56 rfl rfl (by rw [hz]; decide) rfl hUN rfl HBB (cd4e_stb s x y sa sn sc b0 off ao kq cc es0 wq.heap.size w2.heap.size w.heap.size (w2.heap.size)) hb ⟨a2,n2,c2,k2,m2,e2,rfl,((hzI.mono hI.bel.size).le (by decide))⟩)⟩
      ·intro lQ b W hI hUN hED KQ hKQ
       exact opw_field 46 1 17 rfl _ ((hI.fr.same 1 (by decide)).trans g1) _ (by kernel_rfl) (hKQ.out _ _ (hI.put 15 57 rfl rfl (by rw [hz]; decide) rfl hUN rfl HBB (cd4e_stb s x y sa sn sc b0 off ao kq cc es0 wq.heap.size w2.heap.size w.heap.size (w2.heap.size)) (Below.refl _ _) rfl))
      ·intro lQ b W hI hUN hED KQ hKQ
       have f:=hI.got 15 (of_decide_eq_true rfl) (edge hED 15 (by kernel_rfl)) rfl
       have hg:=(hI.vot 27 (of_decide_eq_true rfl) (of_decide_eq_true rfl) rfl)
       have hc:W.cell? ⟨w.heap.size,19,none⟩=some (.slice s.a8 s.n8 s.c8):=(cell_of_row _ _ 19 _ _ (0,0) hg).trans rfl
       exact opw_load1 44 57 rfl _ f _ (by simp [Instr.loadAt,go_sem,hc]) (hKQ.out _ _ (hI.put 16 58 rfl rfl (by rw [hz]; decide) rfl hUN rfl HBB (cd4e_stb s x y sa sn sc b0 off ao kq cc es0 wq.heap.size w2.heap.size w.heap.size (w2.heap.size)) (Below.refl _ _) rfl))
      ·intro lQ b W hI hUN hED KQ hKQ
       exact opw_move 6 rfl (hKQ.out _ _ (hI.put 17 59 rfl rfl (by rw [hz]; decide) rfl hUN rfl HBB (cd4e_stb s x y sa sn sc b0 off ao kq cc es0 wq.heap.size w2.heap.size w.heap.size (w2.heap.size)) (Below.refl _ _) ((hI.fr.same 6 (by decide)).trans g6)))
      ·intro lQ b W hI hUN hED KQ hKQ
       have f0:aT b 58=.slice (some ⟨b0,off,none⟩) s.n8 s.c8:=(hI.got 16 (of_decide_eq_true rfl) (edge hED 16 (by kernel_rfl)) rfl).trans (by rw [HA.out])
       have f1:aT b 59=.int .i64 (kq:Int):=hI.got 17 (of_decide_eq_true rfl) (edge hED 17 (by kernel_rfl)) rfl
       exact opw_indexY 44 58 59 rfl _ _ f0 f1 _ (indexExt b0 off s.n8 s.c8 kq W hkn) (hKQ.out _ _ (hI.put 18 60 rfl rfl (by rw [hz]; decide) rfl hUN rfl HBB (cd4e_stb s x y sa sn sc b0 off ao kq cc es0 wq.heap.size w2.heap.size w.heap.size (w2.heap.size)) (Below.refl _ _) rfl))
      ·intro lQ b W hI hUN hED KQ hKQ
       have f:aT b 60=.pointer (some ⟨b0,off+kq * 3,none⟩):=hI.got 18 (of_decide_eq_true rfl) (edge hED 18 (by kernel_rfl)) rfl
       exact opw_field 113 60 2 rfl _ f (.pointer (some ⟨b0,off+kq * 3+2,none⟩)) (by kernel_rfl) (hKQ.out _ _ (hI.put 19 61 rfl rfl (by rw [hz]; decide) rfl hUN rfl HBB (cd4e_stb s x y sa sn sc b0 off ao kq cc es0 wq.heap.size w2.heap.size w.heap.size (w2.heap.size)) (Below.refl _ _) rfl))
      ·intro lQ b W hI hUN hED KQ hKQ
       have f:aT b 61=.pointer (some ⟨b0,off+kq * 3+2,none⟩):=hI.got 19 (of_decide_eq_true rfl) (edge hED 19 (by kernel_rfl)) rfl
       have hc:W.cell? ⟨b0,off+kq * 3+2,none⟩=some (.slice sa sn sc):=HCE2.out W hI.bel
       exact opw_load1 32 61 rfl _ f _ (by simp [Instr.loadAt,go_sem,hc]) (hKQ.out _ _ (hI.put 20 62 rfl rfl (by rw [hz]; decide) rfl hUN rfl HBB (cd4e_stb s x y sa sn sc b0 off ao kq cc es0 wq.heap.size w2.heap.size w.heap.size (w2.heap.size)) (Below.refl _ _) rfl))
      ·intro lQ b W hI hUN hED KQ hKQ
       have f0:aT b 62=.slice sa sn sc:=hI.got 20 (of_decide_eq_true rfl) (edge hED 20 (by kernel_rfl)) rfl
       refine opw_call 83 #[.tmp 62] _ _ _ rfl Tryz.func83 (by kernel_rfl) rfl #[.slice sa sn sc] (by simp [ev,f0]) ?_
       refine (l9Bytes_R sa sn sc y.val 0 W (HRV.out W hI.bel) HNL HSV).mono ?_
       rintro r W2 ⟨⟨a3,n3,c3,k3,m3,e3,rfl,hzI⟩,hb⟩
       exact ⟨_,rfl,hKQ.out _ _ (hI.put 21 63 rfl rfl (by rw [hz]; decide) rfl hUN rfl HBB (cd4e_stb s x y sa sn sc b0 off ao kq cc es0 wq.heap.size w2.heap.size w.heap.size (w2.heap.size)) hb ⟨a3,n3,c3,k3,m3,e3,rfl,((hzI.mono hI.bel.size).le (by decide))⟩)⟩
      ·intro lQ b W hI hUN hED KQ hKQ
       obtain ⟨a1,n1,c1,k1,m1,e1,f1,o1⟩:=hI.got 7 (of_decide_eq_true rfl) (edge hED 7 (by kernel_rfl)) rfl
       replace f1:aT b 49=.agg #[.int .i64 (numI y.id).cls,.int .i64 (numI y.id).tag,.bool (numI y.id).cons,.slice a1 n1 c1,.slice k1 m1 e1]:=f1
       obtain ⟨a2,n2,c2,k2,m2,e2,f2,o2⟩:=hI.got 14 (of_decide_eq_true rfl) (edge hED 14 (by kernel_rfl)) rfl
       replace f2:aT b 56=.agg #[.int .i64 (flgI y.crit).cls,.int .i64 (flgI y.crit).tag,.bool (flgI y.crit).cons,.slice a2 n2 c2,.slice k2 m2 e2]:=f2
       obtain ⟨a3,n3,c3,k3,m3,e3,f3,o3⟩:=hI.got 21 (of_decide_eq_true rfl) (edge hED 21 (by kernel_rfl)) rfl
       replace f3:aT b 63=.agg #[.int .i64 (bytI y.val).cls,.int .i64 (bytI y.val).tag,.bool (bytI y.val).cons,.slice a3 n3 c3,.slice k3 m3 e3]:=f3
       refine opw_buildSliceT _ 3 _ rfl #[(0,.agg #[.int .i64 (numI y.id).cls,.int .i64 (numI y.id).tag,.bool (numI y.id).cons,.slice a1 n1 c1,.slice k1 m1 e1]),(1,.agg #[.int .i64 (flgI y.crit).cls,.int .i64 (flgI y.crit).tag,.bool (flgI y.crit).cons,.slice a2 n2 c2,.slice k2 m2 e2]),(2,.agg #[.int .i64 (bytI y.val).cls,.int .i64 (bytI y.val).tag,.bool (bytI y.val).cons,.slice a3 n3 c3,.slice k3 m3 e3])] (by simp [ev,f1,f2,f3]) (.slice (some ⟨W.heap.size,0,none⟩) 3 3) (W.alloc (.cells #[.int .i64 (numI y.id).cls,.int .i64 (numI y.id).tag,.bool (numI y.id).cons,.slice a1 n1 c1,.slice k1 m1 e1,.int .i64 (flgI y.crit).cls,.int .i64 (flgI y.crit).tag,.bool (flgI y.crit).cons,.slice a2 n2 c2,.slice k2 m2 e2,.int .i64 (bytI y.val).cls,.int .i64 (bytI y.val).tag,.bool (bytI y.val).cons,.slice a3 n3 c3,.slice k3 m3 e3] 75)) (by kernel_rfl) ?_
       exact hKQ.out _ _ (hI.put 22 64 rfl rfl (by rw [hz]; decide) rfl hUN rfl HBB (cd4e_stb s x y sa sn sc b0 off ao kq cc es0 wq.heap.size w2.heap.size w.heap.size (w2.heap.size)) ((Below.refl _ _).alloc (Nat.le_refl _) _) ⟨W.heap.size,rfl,kidZ_n3 hI.bel.size o1 o2 o3⟩)
      ·intro lQ b W hI hUN hED KQ hKQ
       obtain ⟨gr,f0,o0⟩:=hI.got 22 (of_decide_eq_true rfl) (edge hED 22 (by kernel_rfl)) rfl
       replace f0:aT b 64=.slice (some ⟨gr,0,none⟩) 3 3:=f0
       refine opw_call 80 #[.tmp 64] _ _ _ rfl Tryz.func80 (by kernel_rfl) rfl #[.slice (some ⟨gr,0,none⟩) 3 3] (by simp [ev,f0]) ?_
       refine (l9Struct_R o0 rfl).mono ?_
       rintro r W2 ⟨⟨a0,n0,c0,k0,m0,e0,rfl,hzI⟩,hb⟩
       exact ⟨_,rfl,hKQ.out _ _ (hI.put 23 65 rfl rfl (by rw [hz]; decide) rfl hUN rfl HBB (cd4e_stb s x y sa sn sc b0 off ao kq cc es0 wq.heap.size w2.heap.size w.heap.size (w2.heap.size)) hb ⟨a0,n0,c0,k0,m0,e0,rfl,hzI⟩)⟩
      ·intro lQ b W hI hUN hED KQ hKQ
       obtain ⟨a0,n0,c0,k0,m0,e0,f0,o0⟩:=hI.got 23 (of_decide_eq_true rfl) (edge hED 23 (by kernel_rfl)) rfl
       replace f0:aT b 65=.agg #[.int .i64 (exI y).cls,.int .i64 (exI y).tag,.bool (exI y).cons,.slice a0 n0 c0,.slice k0 m0 e0]:=f0
       refine opw_buildSliceT _ 1 _ rfl #[(0,.agg #[.int .i64 (exI y).cls,.int .i64 (exI y).tag,.bool (exI y).cons,.slice a0 n0 c0,.slice k0 m0 e0])] (by simp [ev,f0]) (.slice (some ⟨W.heap.size,0,none⟩) 1 1) (W.alloc (.cells #[.int .i64 (exI y).cls,.int .i64 (exI y).tag,.bool (exI y).cons,.slice a0 n0 c0,.slice k0 m0 e0] 75)) (by kernel_rfl) ?_
       have hbA:Below W.heap.size W (W.alloc (.cells #[.int .i64 (exI y).cls,.int .i64 (exI y).tag,.bool (exI y).cons,.slice a0 n0 c0,.slice k0 m0 e0] 75)):=(Below.refl _ _).alloc (Nat.le_refl _) _
       exact hKQ.out _ _ (hI.put 24 66 rfl rfl (by rw [hz]; decide) rfl hUN rfl HBB (cd4e_stb s x y sa sn sc b0 off ao kq cc es0 wq.heap.size w2.heap.size w.heap.size (w2.heap.size)) hbA ⟨W.heap.size,a0,n0,c0,k0,m0,e0,rfl,heap_alloc_new W _,o0.kept hbA,hI.bel.size⟩)
      ·intro lQ b W hI hUN hED KQ hKQ
       obtain ⟨g8,a0,n0,c0,k0,m0,e0,f1,hg8,o1,_⟩:=hI.got 24 (of_decide_eq_true rfl) (edge hED 24 (by kernel_rfl)) rfl
       have f0:aT b 42=.slice ao kq cc:=hI.got 0 (of_decide_eq_true rfl) (edge hED 0 (by kernel_rfl)) rfl
       have hits:OwnItZ 2 0 w2.heap.size W ao kq cc es0:=hI.vot1 28 25 (of_decide_eq_true rfl) (of_decide_eq_true rfl) hUN rfl
       replace f1:aT b 66=.slice (some ⟨g8,0,none⟩) 1 1:=f1
       obtain ⟨vs,hrow⟩:=hits.row
       have hWs:=hI.bel.size
       refine wp_append_lies W (.tmp 42) (.tmp 66) 73 rfl 0 75 i0 _ 5 72 Tryz.underlying73 hi hz0 hz1 hz2 rfl (by decide) (.slice ao kq cc) kq vs f0 hrow ⟨g8,0,none⟩ 1 1 [.int .i64 (exI y).cls,.int .i64 (exI y).tag,.bool (exI y).cons,.slice a0 n0 c0,.slice k0 m0 e0] f1 rfl (World.news_of_block hg8) (by intro u hu; simp only [List.mem_cons,List.not_mem_nil,or_false] at hu; rcases hu with rfl | rfl | rfl | rfl | rfl <;> rfl) (by decide) (by unfold maxLen; omega) (by omega) (Nat.zero_le _) _ rfl ?_
       intro gf cf w' hv hg hl hlt
       have hnew:OwnItZ 2 0 w2.heap.size w' (some ⟨gf,0,none⟩) (kq+1) cf (es0++[exI y]):=hits.appended o1.it (fun b hb=>⟨by have:=hb.1; have:=HQR; omega,hb.2,fun e=>by have:=HOWN.out b e; have:=hb.1; omega⟩) (by omega) hrow hv hg hl (by have:=HBB; omega)
       have hb':Below w2.heap.size wq w':=hI.bel.grown hg (by have:=HBB; omega) (fun kx hx=>hits.2 kx hx)
       have hno:lQ 26=true→False:=fun h=>by
        have h2:=hI.cl 26 (of_decide_eq_true rfl) h 25 (List.Mem.head _)
        rw [show lQ 25=false from hUN] at h2
        cases h2
       refine hKQ.out _ _ (hI.turn 25 67 (fun j hj=>by rcases List.mem_singleton.1 hj with rfl; exact edge hED 0 (by kernel_rfl)) rfl (by rw [hz]; decide) rfl hUN rfl hb' ?_ ⟨gf,cf,rfl,hnew⟩)
       intro kx hkx hne hlk hkill u hu
       match kx,hkx,hne,hkill,hu with
        | 0,_,_,_,hu=>exact hu
        | 1,_,_,_,hu=>exact hu
        | 2,_,_,_,hu=>exact hu
        | 3,_,_,_,hu=>exact hu
        | 4,_,_,_,hu=>exact hu
        | 5,_,_,_,hu=>exact hu
        | 6,_,_,_,hu=>exact hu
        | 7,_,_,_,⟨a1,n1,c1,k1,m1,e1,hv,q_0⟩=>exact ⟨a1,n1,c1,k1,m1,e1,hv,q_0.grown hg (fun j hj=>HOWN.out j hj)⟩
        | 8,_,_,_,hu=>exact hu
        | 9,_,_,_,hu=>exact hu
        | 10,_,_,_,hu=>exact hu
        | 11,_,_,_,hu=>exact hu
        | 12,_,_,_,hu=>exact hu
        | 13,_,_,_,hu=>exact hu
        | 14,_,_,_,⟨a2,n2,c2,k2,m2,e2,hv,q_0⟩=>exact ⟨a2,n2,c2,k2,m2,e2,hv,q_0.grown hg (fun j hj=>HOWN.out j hj)⟩
        | 15,_,_,_,hu=>exact hu
        | 16,_,_,_,hu=>exact hu
        | 17,_,_,_,hu=>exact hu
        | 18,_,_,_,hu=>exact hu
        | 19,_,_,_,hu=>exact hu
        | 20,_,_,_,hu=>exact hu
        | 21,_,_,_,⟨a3,n3,c3,k3,m3,e3,hv,q_0⟩=>exact ⟨a3,n3,c3,k3,m3,e3,hv,q_0.grown hg (fun j hj=>HOWN.out j hj)⟩
        | 22,_,_,_,⟨gr,hv,q_0⟩=>exact ⟨gr,hv,q_0.grown hg (fun j hj=>HOWN.out j hj)⟩
        | 23,_,_,_,⟨a0,n0,c0,k0,m0,e0,hv,q_0⟩=>exact ⟨a0,n0,c0,k0,m0,e0,hv,q_0.grown hg (fun j hj=>HOWN.out j hj)⟩
        | 24,_,_,_,⟨g8,a0,n0,c0,k0,m0,e0,hv,q_0,q_1,q_2⟩=>exact ⟨g8,a0,n0,c0,k0,m0,e0,hv,(hg.block _ (Array.getElem?_eq_some_iff.1 q_0).1 (fun e=>by have:=(HOWN.out _ e.symm).2; omega)).trans q_0,q_1.grown hg (fun j hj=>HOWN.out j hj),q_2⟩
        | 25,_,hne,_,_=>exact absurd rfl hne
        | 26,_,_,hkill,hu=>exact (hno hlk).elim
        | 27,_,_,_,hu=>exact (hg.block _ (Array.getElem?_eq_some_iff.1 hu).1 (fun e=>HNG.out _ e.symm rfl)).trans hu
        | 28,_,_,hkill,_=>exact absurd (hkill 25 (List.Mem.head _)) (by rw [upd_same]; decide)
        | 29,_,_,_,hu=>exact hu
        | kx+30,hkx,_,_,_=>exact absurd hkx (by show ¬ (kx+30<30); omega)
      ·intro lQ b W hI hUN hED KQ hKQ
       have f:=hI.got 25 (of_decide_eq_true rfl) (edge hED 25 (by kernel_rfl)) rfl
       obtain ⟨gf,cf,f0,o0⟩:=f
       replace f0:aT b 67=.slice (some ⟨gf,0,none⟩) (kq+1) cf:=f0
       refine opw_assign 67 rfl ?_
       rw [f0]
       exact hKQ.out _ _ (hI.putp 26 5 (fun j hj=>by rcases List.mem_singleton.1 hj with rfl; exact edge hED 25 (by kernel_rfl)) rfl (by rw [hz]; decide) rfl hUN rfl HBB (cd4e_stb s x y sa sn sc b0 off ao kq cc es0 wq.heap.size w2.heap.size w.heap.size (w2.heap.size)) (Below.refl _ _) ⟨gf,cf,rfl,o0⟩)
     ·intro b W hf hb F
      obtain ⟨gf,cf,e3,hits⟩:=F 26 (of_decide_eq_true rfl) rfl
      replace e3:aT b 5=_:=e3
      rw [hf.eq]
      simp only [puts,Act.put,List.setIfInBounds_toArray,List.set_cons_zero,List.set_cons_succ,e3]
      clear hf F e3
      generalize aT b=AT
      clear b
      have HO7:Hid (OwnItZ 2 0 w2.heap.size W (some ⟨gf,0,none⟩) (kq+1) cf ((x.ext.take (kq+1)).map exI)):=by show OwnItZ _ _ _ _ _ _ _ _; rw [HXK.out]; exact hits
      have B7:Below w2.heap.size w2 W:=hbr.trans hb
      clear hits
      go_wp2
      go_roundw
      case rel=>exact ⟨kq+1,_,cf,by omega,by go_num,rfl,HO7,B7⟩
      case measure=>simp [intOf]; omega
    ·obtain rfl:kq=s.n8:=by omega
     have HLE:Hid (ListZ 0 w1.heap.size 3 wr ao s.n8 (x.ext.map exI)):=⟨by
      have:=HO.out.kids
      rw [List.take_of_length_le (by rw [HL8.out]; exact Nat.le_refl _)] at this
      exact this.mono (fun b hb=>⟨by have:=hb.1; omega,hb.2⟩)⟩
     have HLM2:Hid (ListZ 0 w1.heap.size 3 wr am s.n7 (x.maps.map mapI)):=HLM.out.kept hbr
     have hb1r:Below w1.heap.size w1 wr:=hb12.trans (hbr.mono hws2)
     have HBZ:Hid (_=_):=below_kept HB1.out.2 hb1r
     have hbA:Below w.heap.size w wr:=keepT hbx hb1r
     have HW1Q:w1.heap.size≤wr.heap.size:=hb1r.size
     have HBB:w.heap.size≤wr.heap.size:=hbA.size
     have HGB:0≤w.heap.size∧w.heap.size+1<w1.heap.size:=⟨Nat.zero_le _,hszl⟩
     have hnn8:¬ ((s.n8:Int)<(s.n8:Int)):=by omega
     clear HO HLM
     go_upto_region 11 with fail
     clear x19
     refine wp_region_ri (cd4b s x am cm ao cc 0 w1.heap.size w.heap.size (w.heap.size)) [68,69,70,71,72,73,74,75,76,77,78,79,80,81,82,83,84,85,86,87,88,89,90,91,92,93,94,95,96,97,98,99,100,101,102,103,104,105,106,107,108,109,110,111,112,113,114,115,116,117,118,119,120,121] (w.heap.size) (fun a0=>a0.tmps.size=122∧aT a0 1=.pointer (some ⟨w.heap.size,0,none⟩)∧aT a0 2=.pointer (some ⟨(w.heap.size+1),0,none⟩)∧aT a0 3=.slice am s.n7 cm∧aT a0 5=.slice ao s.n8 cc) (by kernel_rfl) rfl (by kernel_rfl) rfl ⟨rfl,rfl,rfl,rfl,rfl⟩ (cd4b_stb s x am cm ao cc 0 w1.heap.size w.heap.size (w.heap.size)) ?_ ?_ ?_
     ·intro k hk hk2
      match k,hk,hk2 with
      | 55,_,_=>exact HBR.out
      | 56,_,_=>exact HBZ.out
      | 57,_,_=>exact ⟨HLM2.out,HGB⟩
      | 58,_,_=>exact ⟨HLE.out,HGB⟩
      | 0,hk,_=>exact absurd hk (by show ¬ (55≤0); omega)
      | 1,hk,_=>exact absurd hk (by show ¬ (55≤1); omega)
      | 2,hk,_=>exact absurd hk (by show ¬ (55≤2); omega)
      | 3,hk,_=>exact absurd hk (by show ¬ (55≤3); omega)
      | 4,hk,_=>exact absurd hk (by show ¬ (55≤4); omega)
      | 5,hk,_=>exact absurd hk (by show ¬ (55≤5); omega)
      | 6,hk,_=>exact absurd hk (by show ¬ (55≤6); omega)
      | 7,hk,_=>exact absurd hk (by show ¬ (55≤7); omega)
      | 8,hk,_=>exact absurd hk (by show ¬ (55≤8); omega)
      | 9,hk,_=>exact absurd hk (by show ¬ (55≤9); omega)
      | 10,hk,_=>exact absurd hk (by show ¬ (55≤10); omega)
      | 11,hk,_=>exact absurd hk (by show ¬ (55≤11); omega)
      | 12,hk,_=>exact absurd hk (by show ¬ (55≤12); omega)
      | 13,hk,_=>exact absurd hk (by show ¬ (55≤13); omega)
      | 14,hk,_=>exact absurd hk (by show ¬ (55≤14); omega)
      | 15,hk,_=>exact absurd hk (by show ¬ (55≤15); omega)
      | 16,hk,_=>exact absurd hk (by show ¬ (55≤16); omega)
      | 17,hk,_=>exact absurd hk (by show ¬ (55≤17); omega)
      | 18,hk,_=>exact absurd hk (by show ¬ (55≤18); omega)
      | 19,hk,_=>exact absurd hk (by show ¬ (55≤19); omega)
      | 20,hk,_=>exact absurd hk (by show ¬ (55≤20); omega)
      | 21,hk,_=>exact absurd hk (by show ¬ (55≤21); omega)
      | 22,hk,_=>exact absurd hk (by show ¬ (55≤22); omega)
      | 23,hk,_=>exact absurd hk (by show ¬ (55≤23); omega)
      | 24,hk,_=>exact absurd hk (by show ¬ (55≤24); omega)
      | 25,hk,_=>exact absurd hk (by show ¬ (55≤25); omega)
      | 26,hk,_=>exact absurd hk (by show ¬ (55≤26); omega)
      | 27,hk,_=>exact absurd hk (by show ¬ (55≤27); omega)
      | 28,hk,_=>exact absurd hk (by show ¬ (55≤28); omega)
      | 29,hk,_=>exact absurd hk (by show ¬ (55≤29); omega)
      | 30,hk,_=>exact absurd hk (by show ¬ (55≤30); omega)
      | 31,hk,_=>exact absurd hk (by show ¬ (55≤31); omega)
      | 32,hk,_=>exact absurd hk (by show ¬ (55≤32); omega)
      | 33,hk,_=>exact absurd hk (by show ¬ (55≤33); omega)
      | 34,hk,_=>exact absurd hk (by show ¬ (55≤34); omega)
      | 35,hk,_=>exact absurd hk (by show ¬ (55≤35); omega)
      | 36,hk,_=>exact absurd hk (by show ¬ (55≤36); omega)
      | 37,hk,_=>exact absurd hk (by show ¬ (55≤37); omega)
      | 38,hk,_=>exact absurd hk (by show ¬ (55≤38); omega)
      | 39,hk,_=>exact absurd hk (by show ¬ (55≤39); omega)
      | 40,hk,_=>exact absurd hk (by show ¬ (55≤40); omega)
      | 41,hk,_=>exact absurd hk (by show ¬ (55≤41); omega)
      | 42,hk,_=>exact absurd hk (by show ¬ (55≤42); omega)
      | 43,hk,_=>exact absurd hk (by show ¬ (55≤43); omega)
      | 44,hk,_=>exact absurd hk (by show ¬ (55≤44); omega)
      | 45,hk,_=>exact absurd hk (by show ¬ (55≤45); omega)
      | 46,hk,_=>exact absurd hk (by show ¬ (55≤46); omega)
      | 47,hk,_=>exact absurd hk (by show ¬ (55≤47); omega)
      | 48,hk,_=>exact absurd hk (by show ¬ (55≤48); omega)
      | 49,hk,_=>exact absurd hk (by show ¬ (55≤49); omega)
      | 50,hk,_=>exact absurd hk (by show ¬ (55≤50); omega)
      | 51,hk,_=>exact absurd hk (by show ¬ (55≤51); omega)
      | 52,hk,_=>exact absurd hk (by show ¬ (55≤52); omega)
      | 53,hk,_=>exact absurd hk (by show ¬ (55≤53); omega)
      | 54,hk,_=>exact absurd hk (by show ¬ (55≤54); omega)
      | k+59,_,hk2=>exact absurd hk2 (by show ¬ (k+59<59); omega)
     ·rintro a0 ⟨hz,g1,g2,g3,g5⟩
      refine StepsRI.cons ?_ (StepsRI.cons ?_ (StepsRI.cons ?_ (StepsRI.cons ?_ (StepsRI.cons ?_ (StepsRI.cons ?_ (StepsRI.cons ?_ (StepsRI.cons ?_ (StepsRI.cons ?_ (StepsRI.cons ?_ (StepsRI.cons ?_ (StepsRI.cons ?_ (StepsRI.cons ?_ (StepsRI.cons ?_ (StepsRI.cons ?_ (StepsRI.cons ?_ (StepsRI.cons ?_ (StepsRI.cons ?_ (StepsRI.cons ?_ (StepsRI.cons ?_ (StepsRI.cons ?_ (StepsRI.cons ?_ (StepsRI.cons ?_ (StepsRI.cons ?_ (StepsRI.cons ?_ (StepsRI.cons ?_ (StepsRI.cons ?_ (StepsRI.cons ?_ (StepsRI.cons ?_ (StepsRI.cons ?_ (StepsRI.cons ?_ (StepsRI.cons ?_ (StepsRI.cons ?_ (StepsRI.cons ?_ (StepsRI.cons ?_ (StepsRI.cons ?_ (StepsRI.cons ?_ (StepsRI.cons ?_ (StepsRI.cons ?_ (StepsRI.cons ?_ (StepsRI.cons ?_ (StepsRI.cons ?_ (StepsRI.cons ?_ (StepsRI.cons ?_ (StepsRI.cons ?_ (StepsRI.cons ?_ (StepsRI.cons ?_ (StepsRI.cons ?_ (StepsRI.cons ?_ (StepsRI.cons ?_ (StepsRI.cons ?_ (StepsRI.cons ?_ (StepsRI.cons ?_ (StepsRI.cons ?_ (StepsRI.cons ?_ (StepsRI.nil)))))))))))))))))))))))))))))))))))))))))))))))))))))))
      ·intro lQ b W hI hUN hED KQ hKQ
       exact opw_field 46 1 0 rfl _ ((hI.fr.same 1 (by decide)).trans g1) _ (by kernel_rfl) (hKQ.out _ _ (hI.put 0 68 rfl rfl (by rw [hz]; decide) rfl hUN rfl HBB (cd4b_stb s x am cm ao cc 0 w1.heap.size w.heap.size (w.heap.size)) (Below.refl _ _) rfl))
      ·intro lQ b W hI hUN hED KQ hKQ
       have f:=hI.got 0 (of_decide_eq_true rfl) (edge hED 0 (by kernel_rfl)) rfl
       have hg:=(hI.vot 55 (of_decide_eq_true rfl) (of_decide_eq_true rfl) rfl)
       have hc:W.cell? ⟨w.heap.size,0,none⟩=some (.int .i64 x.ser):=(cell_of_row _ _ 0 _ _ (0,0) hg).trans rfl
       exact opw_load1 2 68 rfl _ f _ (by simp [Instr.loadAt,go_sem,hc]) (hKQ.out _ _ (hI.put 1 69 rfl rfl (by rw [hz]; decide) rfl hUN rfl HBB (cd4b_stb s x am cm ao cc 0 w1.heap.size w.heap.size (w.heap.size)) (Below.refl _ _) rfl))
      ·intro lQ b W hI hUN hED KQ hKQ
       have f0:aT b 69=.int .i64 x.ser:=hI.got 1 (of_decide_eq_true rfl) (edge hED 1 (by kernel_rfl)) rfl
       refine opw_call 81 #[.tmp 69] _ _ _ rfl Tryz.func81 (by kernel_rfl) rfl #[.int .i64 x.ser] (by simp [ev,f0]) ?_
       refine (l9Num_R x.ser 0 W).mono ?_
       rintro r W2 ⟨⟨a1,n1,c1,k1,m1,e1,rfl,hzI⟩,hb⟩
       exact ⟨_,rfl,hKQ.out _ _ (hI.put 2 70 rfl rfl (by rw [hz]; decide) rfl hUN rfl HBB (cd4b_stb s x am cm ao cc 0 w1.heap.size w.heap.size (w.heap.size)) hb ⟨a1,n1,c1,k1,m1,e1,rfl,((hzI.mono (Nat.le_trans HW1Q hI.bel.size)).le (by decide)),HGB⟩)⟩
      ·intro lQ b W hI hUN hED KQ hKQ
       exact opw_field 46 1 1 rfl _ ((hI.fr.same 1 (by decide)).trans g1) _ (by kernel_rfl) (hKQ.out _ _ (hI.put 3 71 rfl rfl (by rw [hz]; decide) rfl hUN rfl HBB (cd4b_stb s x am cm ao cc 0 w1.heap.size w.heap.size (w.heap.size)) (Below.refl _ _) rfl))
      ·intro lQ b W hI hUN hED KQ hKQ
       have f:aT b 71=.pointer (some ⟨w.heap.size,1,none⟩):=hI.got 3 (of_decide_eq_true rfl) (edge hED 3 (by kernel_rfl)) rfl
       have hg:=(hI.vot 55 (of_decide_eq_true rfl) (of_decide_eq_true rfl) rfl)
       have hc0:W.cell? ⟨w.heap.size,1,none⟩=some (.slice s.a1 s.n1 s.c1):=(cell_of_row _ _ 1 _ _ (0,0) hg).trans rfl
       exact opw_load1 40 71 rfl _ f _ (by simp [Instr.loadAt,go_sem,hc0]) (hKQ.out _ _ (hI.put 4 72 rfl rfl (by rw [hz]; decide) rfl hUN rfl HBB (cd4b_stb s x am cm ao cc 0 w1.heap.size w.heap.size (w.heap.size)) (Below.refl _ _) rfl))
      ·intro lQ b W hI hUN hED KQ hKQ
       have f0:aT b 72=.agg #[.slice s.a1 s.n1 s.c1]:=hI.got 4 (of_decide_eq_true rfl) (edge hED 4 (by kernel_rfl)) rfl
       refine opw_call 85 #[.tmp 72] _ _ _ rfl Tryz.func85 (by kernel_rfl) rfl #[.agg #[.slice s.a1 s.n1 s.c1]] (by simp [ev,f0]) ?_
       refine (l9Name_R s.a1 s.n1 s.c1 x.iss W (HR.out.kept (hbA.trans hI.bel)).r1 HCS.out.l1 HCS.out.iss).mono ?_
       rintro r W2 ⟨⟨a2,n2,c2,k2,m2,e2,rfl,hzI⟩,hb⟩
       exact ⟨_,rfl,hKQ.out _ _ (hI.put 5 73 rfl rfl (by rw [hz]; decide) rfl hUN rfl HBB (cd4b_stb s x am cm ao cc 0 w1.heap.size w.heap.size (w.heap.size)) hb ⟨a2,n2,c2,k2,m2,e2,rfl,((hzI.mono (Nat.le_trans HW1Q hI.bel.size)).le (by decide)),HGB⟩)⟩
      ·intro lQ b W hI hUN hED KQ hKQ
       exact opw_field 46 1 2 rfl _ ((hI.fr.same 1 (by decide)).trans g1) _ (by kernel_rfl) (hKQ.out _ _ (hI.put 6 74 rfl rfl (by rw [hz]; decide) rfl hUN rfl HBB (cd4b_stb s x am cm ao cc 0 w1.heap.size w.heap.size (w.heap.size)) (Below.refl _ _) rfl))
      ·intro lQ b W hI hUN hED KQ hKQ
       have f:aT b 74=.pointer (some ⟨w.heap.size,2,none⟩):=hI.got 6 (of_decide_eq_true rfl) (edge hED 6 (by kernel_rfl)) rfl
       have hg:=(hI.vot 55 (of_decide_eq_true rfl) (of_decide_eq_true rfl) rfl)
       have hc0:W.cell? ⟨w.heap.size,2,none⟩=some (.slice s.a2 s.n2 s.c2):=(cell_of_row _ _ 2 _ _ (0,0) hg).trans rfl
       exact opw_load1 40 74 rfl _ f _ (by simp [Instr.loadAt,go_sem,hc0]) (hKQ.out _ _ (hI.put 7 75 rfl rfl (by rw [hz]; decide) rfl hUN rfl HBB (cd4b_stb s x am cm ao cc 0 w1.heap.size w.heap.size (w.heap.size)) (Below.refl _ _) rfl))
      ·intro lQ b W hI hUN hED KQ hKQ
       have f0:aT b 75=.agg #[.slice s.a2 s.n2 s.c2]:=hI.got 7 (of_decide_eq_true rfl) (edge hED 7 (by kernel_rfl)) rfl
       refine opw_call 85 #[.tmp 75] _ _ _ rfl Tryz.func85 (by kernel_rfl) rfl #[.agg #[.slice s.a2 s.n2 s.c2]] (by simp [ev,f0]) ?_
       refine (l9Name_R s.a2 s.n2 s.c2 x.sub W (HR.out.kept (hbA.trans hI.bel)).r2 HCS.out.l2 HCS.out.sub).mono ?_
       rintro r W2 ⟨⟨a3,n3,c3,k3,m3,e3,rfl,hzI⟩,hb⟩
       exact ⟨_,rfl,hKQ.out _ _ (hI.put 8 76 rfl rfl (by rw [hz]; decide) rfl hUN rfl HBB (cd4b_stb s x am cm ao cc 0 w1.heap.size w.heap.size (w.heap.size)) hb ⟨a3,n3,c3,k3,m3,e3,rfl,((hzI.mono (Nat.le_trans HW1Q hI.bel.size)).le (by decide)),HGB⟩)⟩
      ·intro lQ b W hI hUN hED KQ hKQ
       exact opw_field 46 1 3 rfl _ ((hI.fr.same 1 (by decide)).trans g1) _ (by kernel_rfl) (hKQ.out _ _ (hI.put 9 77 rfl rfl (by rw [hz]; decide) rfl hUN rfl HBB (cd4b_stb s x am cm ao cc 0 w1.heap.size w.heap.size (w.heap.size)) (Below.refl _ _) rfl))
      ·intro lQ b W hI hUN hED KQ hKQ
       have f:=hI.got 9 (of_decide_eq_true rfl) (edge hED 9 (by kernel_rfl)) rfl
       have hg:=(hI.vot 55 (of_decide_eq_true rfl) (of_decide_eq_true rfl) rfl)
       have hc:W.cell? ⟨w.heap.size,3,none⟩=some (.int .i64 x.frm):=(cell_of_row _ _ 3 _ _ (0,0) hg).trans rfl
       exact opw_load1 2 77 rfl _ f _ (by simp [Instr.loadAt,go_sem,hc]) (hKQ.out _ _ (hI.put 10 78 rfl rfl (by rw [hz]; decide) rfl hUN rfl HBB (cd4b_stb s x am cm ao cc 0 w1.heap.size w.heap.size (w.heap.size)) (Below.refl _ _) rfl))
      ·intro lQ b W hI hUN hED KQ hKQ
       have f0:aT b 78=.int .i64 x.frm:=hI.got 10 (of_decide_eq_true rfl) (edge hED 10 (by kernel_rfl)) rfl
       refine opw_call 81 #[.tmp 78] _ _ _ rfl Tryz.func81 (by kernel_rfl) rfl #[.int .i64 x.frm] (by simp [ev,f0]) ?_
       refine (l9Num_R x.frm 0 W).mono ?_
       rintro r W2 ⟨⟨a4,n4,c4,k4,m4,e4,rfl,hzI⟩,hb⟩
       exact ⟨_,rfl,hKQ.out _ _ (hI.put 11 79 rfl rfl (by rw [hz]; decide) rfl hUN rfl HBB (cd4b_stb s x am cm ao cc 0 w1.heap.size w.heap.size (w.heap.size)) hb ⟨a4,n4,c4,k4,m4,e4,rfl,((hzI.mono (Nat.le_trans HW1Q hI.bel.size)).le (by decide)),HGB⟩)⟩
      ·intro lQ b W hI hUN hED KQ hKQ
       exact opw_field 46 1 4 rfl _ ((hI.fr.same 1 (by decide)).trans g1) _ (by kernel_rfl) (hKQ.out _ _ (hI.put 12 80 rfl rfl (by rw [hz]; decide) rfl hUN rfl HBB (cd4b_stb s x am cm ao cc 0 w1.heap.size w.heap.size (w.heap.size)) (Below.refl _ _) rfl))
      ·intro lQ b W hI hUN hED KQ hKQ
       have f:=hI.got 12 (of_decide_eq_true rfl) (edge hED 12 (by kernel_rfl)) rfl
       have hg:=(hI.vot 55 (of_decide_eq_true rfl) (of_decide_eq_true rfl) rfl)
       have hc:W.cell? ⟨w.heap.size,4,none⟩=some (.int .i64 x.til):=(cell_of_row _ _ 4 _ _ (0,0) hg).trans rfl
       exact opw_load1 2 80 rfl _ f _ (by simp [Instr.loadAt,go_sem,hc]) (hKQ.out _ _ (hI.put 13 81 rfl rfl (by rw [hz]; decide) rfl hUN rfl HBB (cd4b_stb s x am cm ao cc 0 w1.heap.size w.heap.size (w.heap.size)) (Below.refl _ _) rfl))
      ·intro lQ b W hI hUN hED KQ hKQ
       have f0:aT b 81=.int .i64 x.til:=hI.got 13 (of_decide_eq_true rfl) (edge hED 13 (by kernel_rfl)) rfl
       refine opw_call 81 #[.tmp 81] _ _ _ rfl Tryz.func81 (by kernel_rfl) rfl #[.int .i64 x.til] (by simp [ev,f0]) ?_
       refine (l9Num_R x.til 0 W).mono ?_
       rintro r W2 ⟨⟨a5,n5,c5,k5,m5,e5,rfl,hzI⟩,hb⟩
       exact ⟨_,rfl,hKQ.out _ _ (hI.put 14 82 rfl rfl (by rw [hz]; decide) rfl hUN rfl HBB (cd4b_stb s x am cm ao cc 0 w1.heap.size w.heap.size (w.heap.size)) hb ⟨a5,n5,c5,k5,m5,e5,rfl,((hzI.mono (Nat.le_trans HW1Q hI.bel.size)).le (by decide)),HGB⟩)⟩
      ·intro lQ b W hI hUN hED KQ hKQ
       exact opw_field 46 1 5 rfl _ ((hI.fr.same 1 (by decide)).trans g1) _ (by kernel_rfl) (hKQ.out _ _ (hI.put 15 83 rfl rfl (by rw [hz]; decide) rfl hUN rfl HBB (cd4b_stb s x am cm ao cc 0 w1.heap.size w.heap.size (w.heap.size)) (Below.refl _ _) rfl))
      ·intro lQ b W hI hUN hED KQ hKQ
       have f:aT b 83=.pointer (some ⟨w.heap.size,5,none⟩):=hI.got 15 (of_decide_eq_true rfl) (edge hED 15 (by kernel_rfl)) rfl
       have hg:=(hI.vot 55 (of_decide_eq_true rfl) (of_decide_eq_true rfl) rfl)
       have hc0:W.cell? ⟨w.heap.size,5,none⟩=some (.int .i64 x.key.1):=(cell_of_row _ _ 5 _ _ (0,0) hg).trans rfl
       have hc1:W.cell? ⟨w.heap.size,6,none⟩=some (.int .u64 x.key.2.1):=(cell_of_row _ _ 6 _ _ (0,0) hg).trans rfl
       have hc2:W.cell? ⟨w.heap.size,7,none⟩=some (.int .i64 x.key.2.2):=(cell_of_row _ _ 7 _ _ (0,0) hg).trans rfl
       exact opw_load1 41 83 rfl _ f _ (by simp [Instr.loadAt,go_sem,hc0,hc1,hc2]) (hKQ.out _ _ (hI.put 16 84 rfl rfl (by rw [hz]; decide) rfl hUN rfl HBB (cd4b_stb s x am cm ao cc 0 w1.heap.size w.heap.size (w.heap.size)) (Below.refl _ _) rfl))
      ·intro lQ b W hI hUN hED KQ hKQ
       have f0:aT b 84=.agg #[.int .i64 x.key.1,.int .u64 x.key.2.1,.int .i64 x.key.2.2]:=hI.got 16 (of_decide_eq_true rfl) (edge hED 16 (by kernel_rfl)) rfl
       refine opw_call 86 #[.tmp 84] _ _ _ rfl Tryz.func86 (by kernel_rfl) rfl #[.agg #[.int .i64 x.key.1,.int .u64 x.key.2.1,.int .i64 x.key.2.2]] (by simp [ev,f0]) ?_
       refine (l9Pub_R x.key 0 W (Nat.zero_le _) HCS.out.key).mono ?_
       rintro r W2 ⟨⟨a6,n6,c6,k6,m6,e6,rfl,hzI⟩,hb⟩
       exact ⟨_,rfl,hKQ.out _ _ (hI.put 17 85 rfl rfl (by rw [hz]; decide) rfl hUN rfl HBB (cd4b_stb s x am cm ao cc 0 w1.heap.size w.heap.size (w.heap.size)) hb ⟨a6,n6,c6,k6,m6,e6,rfl,((hzI.mono (Nat.le_trans HW1Q hI.bel.size)).le (by decide)),HGB⟩)⟩
      ·intro lQ b W hI hUN hED KQ hKQ
       exact opw_field 46 1 6 rfl _ ((hI.fr.same 1 (by decide)).trans g1) _ (by kernel_rfl) (hKQ.out _ _ (hI.put 18 86 rfl rfl (by rw [hz]; decide) rfl hUN rfl HBB (cd4b_stb s x am cm ao cc 0 w1.heap.size w.heap.size (w.heap.size)) (Below.refl _ _) rfl))
      ·intro lQ b W hI hUN hED KQ hKQ
       have f:=hI.got 18 (of_decide_eq_true rfl) (edge hED 18 (by kernel_rfl)) rfl
       have hg:=(hI.vot 55 (of_decide_eq_true rfl) (of_decide_eq_true rfl) rfl)
       have hc:W.cell? ⟨w.heap.size,8,none⟩=some (.bool x.ca):=(cell_of_row _ _ 8 _ _ (0,0) hg).trans rfl
       exact opw_load1 4 86 rfl _ f _ (by simp [Instr.loadAt,go_sem,hc]) (hKQ.out _ _ (hI.put 19 87 rfl rfl (by rw [hz]; decide) rfl hUN rfl HBB (cd4b_stb s x am cm ao cc 0 w1.heap.size w.heap.size (w.heap.size)) (Below.refl _ _) rfl))
      ·intro lQ b W hI hUN hED KQ hKQ
       have f0:aT b 87=.bool x.ca:=hI.got 19 (of_decide_eq_true rfl) (edge hED 19 (by kernel_rfl)) rfl
       refine opw_call 82 #[.tmp 87] _ _ _ rfl Tryz.func82 (by kernel_rfl) rfl #[.bool x.ca] (by simp [ev,f0]) ?_
       refine (l9Flag_R x.ca W 0 (Nat.zero_le _)).mono ?_
       rintro r W2 ⟨⟨a7,n7,c7,k7,m7,e7,rfl,hzI⟩,hb⟩
       exact ⟨_,rfl,hKQ.out _ _ (hI.put 20 88 rfl rfl (by rw [hz]; decide) rfl hUN rfl HBB (cd4b_stb s x am cm ao cc 0 w1.heap.size w.heap.size (w.heap.size)) hb ⟨a7,n7,c7,k7,m7,e7,rfl,((hzI.mono (Nat.le_trans HW1Q hI.bel.size)).le (by decide)),HGB⟩)⟩
      ·intro lQ b W hI hUN hED KQ hKQ
       exact opw_field 46 1 7 rfl _ ((hI.fr.same 1 (by decide)).trans g1) _ (by kernel_rfl) (hKQ.out _ _ (hI.put 21 89 rfl rfl (by rw [hz]; decide) rfl hUN rfl HBB (cd4b_stb s x am cm ao cc 0 w1.heap.size w.heap.size (w.heap.size)) (Below.refl _ _) rfl))
      ·intro lQ b W hI hUN hED KQ hKQ
       have f:=hI.got 21 (of_decide_eq_true rfl) (edge hED 21 (by kernel_rfl)) rfl
       have hg:=(hI.vot 55 (of_decide_eq_true rfl) (of_decide_eq_true rfl) rfl)
       have hc:W.cell? ⟨w.heap.size,9,none⟩=some (.int .i64 x.room):=(cell_of_row _ _ 9 _ _ (0,0) hg).trans rfl
       exact opw_load1 2 89 rfl _ f _ (by simp [Instr.loadAt,go_sem,hc]) (hKQ.out _ _ (hI.put 22 90 rfl rfl (by rw [hz]; decide) rfl hUN rfl HBB (cd4b_stb s x am cm ao cc 0 w1.heap.size w.heap.size (w.heap.size)) (Below.refl _ _) rfl))
      ·intro lQ b W hI hUN hED KQ hKQ
       have f0:aT b 90=.int .i64 x.room:=hI.got 22 (of_decide_eq_true rfl) (edge hED 22 (by kernel_rfl)) rfl
       refine opw_call 81 #[.tmp 90] _ _ _ rfl Tryz.func81 (by kernel_rfl) rfl #[.int .i64 x.room] (by simp [ev,f0]) ?_
       refine (l9Num_R x.room 0 W).mono ?_
       rintro r W2 ⟨⟨a8,n8,c8,k8,m8,e8,rfl,hzI⟩,hb⟩
       exact ⟨_,rfl,hKQ.out _ _ (hI.put 23 91 rfl rfl (by rw [hz]; decide) rfl hUN rfl HBB (cd4b_stb s x am cm ao cc 0 w1.heap.size w.heap.size (w.heap.size)) hb ⟨a8,n8,c8,k8,m8,e8,rfl,((hzI.mono (Nat.le_trans HW1Q hI.bel.size)).le (by decide)),HGB⟩)⟩
      ·intro lQ b W hI hUN hED KQ hKQ
       exact opw_field 46 1 8 rfl _ ((hI.fr.same 1 (by decide)).trans g1) _ (by kernel_rfl) (hKQ.out _ _ (hI.put 24 92 rfl rfl (by rw [hz]; decide) rfl hUN rfl HBB (cd4b_stb s x am cm ao cc 0 w1.heap.size w.heap.size (w.heap.size)) (Below.refl _ _) rfl))
      ·intro lQ b W hI hUN hED KQ hKQ
       have f:=hI.got 24 (of_decide_eq_true rfl) (edge hED 24 (by kernel_rfl)) rfl
       have hg:=(hI.vot 55 (of_decide_eq_true rfl) (of_decide_eq_true rfl) rfl)
       have hc:W.cell? ⟨w.heap.size,10,none⟩=some (.int .i64 x.uses):=(cell_of_row _ _ 10 _ _ (0,0) hg).trans rfl
       exact opw_load1 2 92 rfl _ f _ (by simp [Instr.loadAt,go_sem,hc]) (hKQ.out _ _ (hI.put 25 93 rfl rfl (by rw [hz]; decide) rfl hUN rfl HBB (cd4b_stb s x am cm ao cc 0 w1.heap.size w.heap.size (w.heap.size)) (Below.refl _ _) rfl))
      ·intro lQ b W hI hUN hED KQ hKQ
       have f0:aT b 93=.int .i64 x.uses:=hI.got 25 (of_decide_eq_true rfl) (edge hED 25 (by kernel_rfl)) rfl
       refine opw_call 81 #[.tmp 93] _ _ _ rfl Tryz.func81 (by kernel_rfl) rfl #[.int .i64 x.uses] (by simp [ev,f0]) ?_
       refine (l9Num_R x.uses 0 W).mono ?_
       rintro r W2 ⟨⟨a9,n9,c9,k9,m9,e9,rfl,hzI⟩,hb⟩
       exact ⟨_,rfl,hKQ.out _ _ (hI.put 26 94 rfl rfl (by rw [hz]; decide) rfl hUN rfl HBB (cd4b_stb s x am cm ao cc 0 w1.heap.size w.heap.size (w.heap.size)) hb ⟨a9,n9,c9,k9,m9,e9,rfl,((hzI.mono (Nat.le_trans HW1Q hI.bel.size)).le (by decide)),HGB⟩)⟩
      ·intro lQ b W hI hUN hED KQ hKQ
       exact opw_field 46 1 9 rfl _ ((hI.fr.same 1 (by decide)).trans g1) _ (by kernel_rfl) (hKQ.out _ _ (hI.put 27 95 rfl rfl (by rw [hz]; decide) rfl hUN rfl HBB (cd4b_stb s x am cm ao cc 0 w1.heap.size w.heap.size (w.heap.size)) (Below.refl _ _) rfl))
      ·intro lQ b W hI hUN hED KQ hKQ
       have f:=hI.got 27 (of_decide_eq_true rfl) (edge hED 27 (by kernel_rfl)) rfl
       have hg:=(hI.vot 55 (of_decide_eq_true rfl) (of_decide_eq_true rfl) rfl)
       have hc:W.cell? ⟨w.heap.size,11,none⟩=some (.slice s.a3 s.n3 s.c3):=(cell_of_row _ _ 11 _ _ (0,0) hg).trans rfl
       exact opw_load1 42 95 rfl _ f _ (by simp [Instr.loadAt,go_sem,hc]) (hKQ.out _ _ (hI.put 28 96 rfl rfl (by rw [hz]; decide) rfl hUN rfl HBB (cd4b_stb s x am cm ao cc 0 w1.heap.size w.heap.size (w.heap.size)) (Below.refl _ _) rfl))
      ·intro lQ b W hI hUN hED KQ hKQ
       have f0:aT b 96=.slice s.a3 s.n3 s.c3:=hI.got 28 (of_decide_eq_true rfl) (edge hED 28 (by kernel_rfl)) rfl
       refine opw_call 87 #[.tmp 96] _ _ _ rfl Tryz.func87 (by kernel_rfl) rfl #[.slice s.a3 s.n3 s.c3] (by simp [ev,f0]) ?_
       refine (l9GenList_R s.a3 s.n3 s.c3 x.nms W (HR.out.kept (hbA.trans hI.bel)).r3 HCS.out.l3 HCS.out.nms).mono ?_
       rintro r W2 ⟨⟨a10,n10,c10,k10,m10,e10,rfl,hzI⟩,hb⟩
       exact ⟨_,rfl,hKQ.out _ _ (hI.put 29 97 rfl rfl (by rw [hz]; decide) rfl hUN rfl HBB (cd4b_stb s x am cm ao cc 0 w1.heap.size w.heap.size (w.heap.size)) hb ⟨a10,n10,c10,k10,m10,e10,rfl,((hzI.mono (Nat.le_trans HW1Q hI.bel.size)).le (by decide)),HGB⟩)⟩
      ·intro lQ b W hI hUN hED KQ hKQ
       exact opw_field 46 1 10 rfl _ ((hI.fr.same 1 (by decide)).trans g1) _ (by kernel_rfl) (hKQ.out _ _ (hI.put 30 98 rfl rfl (by rw [hz]; decide) rfl hUN rfl HBB (cd4b_stb s x am cm ao cc 0 w1.heap.size w.heap.size (w.heap.size)) (Below.refl _ _) rfl))
      ·intro lQ b W hI hUN hED KQ hKQ
       have f:=hI.got 30 (of_decide_eq_true rfl) (edge hED 30 (by kernel_rfl)) rfl
       have hg:=(hI.vot 55 (of_decide_eq_true rfl) (of_decide_eq_true rfl) rfl)
       have hc:W.cell? ⟨w.heap.size,12,none⟩=some (.slice s.a4 s.n4 s.c4):=(cell_of_row _ _ 12 _ _ (0,0) hg).trans rfl
       exact opw_load1 42 98 rfl _ f _ (by simp [Instr.loadAt,go_sem,hc]) (hKQ.out _ _ (hI.put 31 99 rfl rfl (by rw [hz]; decide) rfl hUN rfl HBB (cd4b_stb s x am cm ao cc 0 w1.heap.size w.heap.size (w.heap.size)) (Below.refl _ _) rfl))
      ·intro lQ b W hI hUN hED KQ hKQ
       have f0:aT b 99=.slice s.a4 s.n4 s.c4:=hI.got 31 (of_decide_eq_true rfl) (edge hED 31 (by kernel_rfl)) rfl
       refine opw_call 87 #[.tmp 99] _ _ _ rfl Tryz.func87 (by kernel_rfl) rfl #[.slice s.a4 s.n4 s.c4] (by simp [ev,f0]) ?_
       refine (l9GenList_R s.a4 s.n4 s.c4 x.per W (HR.out.kept (hbA.trans hI.bel)).r4 HCS.out.l4 HCS.out.per).mono ?_
       rintro r W2 ⟨⟨a11,n11,c11,k11,m11,e11,rfl,hzI⟩,hb⟩
       exact ⟨_,rfl,hKQ.out _ _ (hI.put 32 100 rfl rfl (by rw [hz]; decide) rfl hUN rfl HBB (cd4b_stb s x am cm ao cc 0 w1.heap.size w.heap.size (w.heap.size)) hb ⟨a11,n11,c11,k11,m11,e11,rfl,((hzI.mono (Nat.le_trans HW1Q hI.bel.size)).le (by decide)),HGB⟩)⟩
      ·intro lQ b W hI hUN hED KQ hKQ
       exact opw_field 46 1 11 rfl _ ((hI.fr.same 1 (by decide)).trans g1) _ (by kernel_rfl) (hKQ.out _ _ (hI.put 33 101 rfl rfl (by rw [hz]; decide) rfl hUN rfl HBB (cd4b_stb s x am cm ao cc 0 w1.heap.size w.heap.size (w.heap.size)) (Below.refl _ _) rfl))
      ·intro lQ b W hI hUN hED KQ hKQ
       have f:=hI.got 33 (of_decide_eq_true rfl) (edge hED 33 (by kernel_rfl)) rfl
       have hg:=(hI.vot 55 (of_decide_eq_true rfl) (of_decide_eq_true rfl) rfl)
       have hc:W.cell? ⟨w.heap.size,13,none⟩=some (.slice s.a5 s.n5 s.c5):=(cell_of_row _ _ 13 _ _ (0,0) hg).trans rfl
       exact opw_load1 42 101 rfl _ f _ (by simp [Instr.loadAt,go_sem,hc]) (hKQ.out _ _ (hI.put 34 102 rfl rfl (by rw [hz]; decide) rfl hUN rfl HBB (cd4b_stb s x am cm ao cc 0 w1.heap.size w.heap.size (w.heap.size)) (Below.refl _ _) rfl))
      ·intro lQ b W hI hUN hED KQ hKQ
       have f0:aT b 102=.slice s.a5 s.n5 s.c5:=hI.got 34 (of_decide_eq_true rfl) (edge hED 34 (by kernel_rfl)) rfl
       refine opw_call 87 #[.tmp 102] _ _ _ rfl Tryz.func87 (by kernel_rfl) rfl #[.slice s.a5 s.n5 s.c5] (by simp [ev,f0]) ?_
       refine (l9GenList_R s.a5 s.n5 s.c5 x.den W (HR.out.kept (hbA.trans hI.bel)).r5 HCS.out.l5 HCS.out.den).mono ?_
       rintro r W2 ⟨⟨a12,n12,c12,k12,m12,e12,rfl,hzI⟩,hb⟩
       exact ⟨_,rfl,hKQ.out _ _ (hI.put 35 103 rfl rfl (by rw [hz]; decide) rfl hUN rfl HBB (cd4b_stb s x am cm ao cc 0 w1.heap.size w.heap.size (w.heap.size)) hb ⟨a12,n12,c12,k12,m12,e12,rfl,((hzI.mono (Nat.le_trans HW1Q hI.bel.size)).le (by decide)),HGB⟩)⟩
      ·intro lQ b W hI hUN hED KQ hKQ
       exact opw_field 46 1 12 rfl _ ((hI.fr.same 1 (by decide)).trans g1) _ (by kernel_rfl) (hKQ.out _ _ (hI.put 36 104 rfl rfl (by rw [hz]; decide) rfl hUN rfl HBB (cd4b_stb s x am cm ao cc 0 w1.heap.size w.heap.size (w.heap.size)) (Below.refl _ _) rfl))
      ·intro lQ b W hI hUN hED KQ hKQ
       have f:=hI.got 36 (of_decide_eq_true rfl) (edge hED 36 (by kernel_rfl)) rfl
       have hg:=(hI.vot 55 (of_decide_eq_true rfl) (of_decide_eq_true rfl) rfl)
       have hc:W.cell? ⟨w.heap.size,14,none⟩=some (.slice s.a6 s.n6 s.c6):=(cell_of_row _ _ 14 _ _ (0,0) hg).trans rfl
       exact opw_load1 29 104 rfl _ f _ (by simp [Instr.loadAt,go_sem,hc]) (hKQ.out _ _ (hI.put 37 105 rfl rfl (by rw [hz]; decide) rfl hUN rfl HBB (cd4b_stb s x am cm ao cc 0 w1.heap.size w.heap.size (w.heap.size)) (Below.refl _ _) rfl))
      ·intro lQ b W hI hUN hED KQ hKQ
       have f0:aT b 105=.slice s.a6 s.n6 s.c6:=hI.got 37 (of_decide_eq_true rfl) (edge hED 37 (by kernel_rfl)) rfl
       refine opw_call 88 #[.tmp 105] _ _ _ rfl Tryz.func88 (by kernel_rfl) rfl #[.slice s.a6 s.n6 s.c6] (by simp [ev,f0]) ?_
       refine (l9NumList_R s.a6 s.n6 s.c6 x.pol 0 W (Nat.zero_le _) (HR.out.kept (hbA.trans hI.bel)).r6 HCS.out.l6).mono ?_
       rintro r W2 ⟨⟨a13,n13,c13,k13,m13,e13,rfl,hzI⟩,hb⟩
       exact ⟨_,rfl,hKQ.out _ _ (hI.put 38 106 rfl rfl (by rw [hz]; decide) rfl hUN rfl HBB (cd4b_stb s x am cm ao cc 0 w1.heap.size w.heap.size (w.heap.size)) hb ⟨a13,n13,c13,k13,m13,e13,rfl,((hzI.mono (Nat.le_trans HW1Q hI.bel.size)).le (by decide)),HGB⟩)⟩
      ·intro lQ b W hI hUN hED KQ hKQ
       exact opw_move 3 rfl (hKQ.out _ _ (hI.put 39 107 rfl rfl (by rw [hz]; decide) rfl hUN rfl HBB (cd4b_stb s x am cm ao cc 0 w1.heap.size w.heap.size (w.heap.size)) (Below.refl _ _) ((hI.fr.same 3 (by decide)).trans g3)))
      ·intro lQ b W hI hUN hED KQ hKQ
       obtain ⟨hl0,_⟩:=hI.vot 57 (of_decide_eq_true rfl) (of_decide_eq_true rfl) rfl
       have f0:aT b 107=.slice am s.n7 cm:=hI.got 39 (of_decide_eq_true rfl) (edge hED 39 (by kernel_rfl)) rfl
       refine opw_call 89 #[.tmp 107] _ _ _ rfl Tryz.func89 (by kernel_rfl) rfl #[.slice am s.n7 cm] (by simp [ev,f0]) ?_
       refine (l9List_R hl0).mono ?_
       rintro r W2 ⟨⟨a14,n14,c14,k14,m14,e14,rfl,hzI⟩,hb⟩
       exact ⟨_,rfl,hKQ.out _ _ (hI.put 40 108 rfl rfl (by rw [hz]; decide) rfl hUN rfl HBB (cd4b_stb s x am cm ao cc 0 w1.heap.size w.heap.size (w.heap.size)) hb ⟨a14,n14,c14,k14,m14,e14,rfl,(hzI.le (by decide)),HGB⟩)⟩
      ·intro lQ b W hI hUN hED KQ hKQ
       exact opw_field 46 1 14 rfl _ ((hI.fr.same 1 (by decide)).trans g1) _ (by kernel_rfl) (hKQ.out _ _ (hI.put 41 109 rfl rfl (by rw [hz]; decide) rfl hUN rfl HBB (cd4b_stb s x am cm ao cc 0 w1.heap.size w.heap.size (w.heap.size)) (Below.refl _ _) rfl))
      ·intro lQ b W hI hUN hED KQ hKQ
       have f:=hI.got 41 (of_decide_eq_true rfl) (edge hED 41 (by kernel_rfl)) rfl
       have hg:=(hI.vot 55 (of_decide_eq_true rfl) (of_decide_eq_true rfl) rfl)
       have hc:W.cell? ⟨w.heap.size,16,none⟩=some (.int .i64 x.need):=(cell_of_row _ _ 16 _ _ (0,0) hg).trans rfl
       exact opw_load1 2 109 rfl _ f _ (by simp [Instr.loadAt,go_sem,hc]) (hKQ.out _ _ (hI.put 42 110 rfl rfl (by rw [hz]; decide) rfl hUN rfl HBB (cd4b_stb s x am cm ao cc 0 w1.heap.size w.heap.size (w.heap.size)) (Below.refl _ _) rfl))
      ·intro lQ b W hI hUN hED KQ hKQ
       have f0:aT b 110=.int .i64 x.need:=hI.got 42 (of_decide_eq_true rfl) (edge hED 42 (by kernel_rfl)) rfl
       refine opw_call 81 #[.tmp 110] _ _ _ rfl Tryz.func81 (by kernel_rfl) rfl #[.int .i64 x.need] (by simp [ev,f0]) ?_
       refine (l9Num_R x.need 0 W).mono ?_
       rintro r W2 ⟨⟨a15,n15,c15,k15,m15,e15,rfl,hzI⟩,hb⟩
       exact ⟨_,rfl,hKQ.out _ _ (hI.put 43 111 rfl rfl (by rw [hz]; decide) rfl hUN rfl HBB (cd4b_stb s x am cm ao cc 0 w1.heap.size w.heap.size (w.heap.size)) hb ⟨a15,n15,c15,k15,m15,e15,rfl,((hzI.mono (Nat.le_trans HW1Q hI.bel.size)).le (by decide)),HGB⟩)⟩
      ·intro lQ b W hI hUN hED KQ hKQ
       exact opw_field 46 1 15 rfl _ ((hI.fr.same 1 (by decide)).trans g1) _ (by kernel_rfl) (hKQ.out _ _ (hI.put 44 112 rfl rfl (by rw [hz]; decide) rfl hUN rfl HBB (cd4b_stb s x am cm ao cc 0 w1.heap.size w.heap.size (w.heap.size)) (Below.refl _ _) rfl))
      ·intro lQ b W hI hUN hED KQ hKQ
       have f:=hI.got 44 (of_decide_eq_true rfl) (edge hED 44 (by kernel_rfl)) rfl
       have hg:=(hI.vot 55 (of_decide_eq_true rfl) (of_decide_eq_true rfl) rfl)
       have hc:W.cell? ⟨w.heap.size,17,none⟩=some (.int .i64 x.nomap):=(cell_of_row _ _ 17 _ _ (0,0) hg).trans rfl
       exact opw_load1 2 112 rfl _ f _ (by simp [Instr.loadAt,go_sem,hc]) (hKQ.out _ _ (hI.put 45 113 rfl rfl (by rw [hz]; decide) rfl hUN rfl HBB (cd4b_stb s x am cm ao cc 0 w1.heap.size w.heap.size (w.heap.size)) (Below.refl _ _) rfl))
      ·intro lQ b W hI hUN hED KQ hKQ
       have f0:aT b 113=.int .i64 x.nomap:=hI.got 45 (of_decide_eq_true rfl) (edge hED 45 (by kernel_rfl)) rfl
       refine opw_call 81 #[.tmp 113] _ _ _ rfl Tryz.func81 (by kernel_rfl) rfl #[.int .i64 x.nomap] (by simp [ev,f0]) ?_
       refine (l9Num_R x.nomap 0 W).mono ?_
       rintro r W2 ⟨⟨a16,n16,c16,k16,m16,e16,rfl,hzI⟩,hb⟩
       exact ⟨_,rfl,hKQ.out _ _ (hI.put 46 114 rfl rfl (by rw [hz]; decide) rfl hUN rfl HBB (cd4b_stb s x am cm ao cc 0 w1.heap.size w.heap.size (w.heap.size)) hb ⟨a16,n16,c16,k16,m16,e16,rfl,((hzI.mono (Nat.le_trans HW1Q hI.bel.size)).le (by decide)),HGB⟩)⟩
      ·intro lQ b W hI hUN hED KQ hKQ
       exact opw_field 46 1 16 rfl _ ((hI.fr.same 1 (by decide)).trans g1) _ (by kernel_rfl) (hKQ.out _ _ (hI.put 47 115 rfl rfl (by rw [hz]; decide) rfl hUN rfl HBB (cd4b_stb s x am cm ao cc 0 w1.heap.size w.heap.size (w.heap.size)) (Below.refl _ _) rfl))
      ·intro lQ b W hI hUN hED KQ hKQ
       have f:=hI.got 47 (of_decide_eq_true rfl) (edge hED 47 (by kernel_rfl)) rfl
       have hg:=(hI.vot 55 (of_decide_eq_true rfl) (of_decide_eq_true rfl) rfl)
       have hc:W.cell? ⟨w.heap.size,18,none⟩=some (.int .i64 x.noany):=(cell_of_row _ _ 18 _ _ (0,0) hg).trans rfl
       exact opw_load1 2 115 rfl _ f _ (by simp [Instr.loadAt,go_sem,hc]) (hKQ.out _ _ (hI.put 48 116 rfl rfl (by rw [hz]; decide) rfl hUN rfl HBB (cd4b_stb s x am cm ao cc 0 w1.heap.size w.heap.size (w.heap.size)) (Below.refl _ _) rfl))
      ·intro lQ b W hI hUN hED KQ hKQ
       have f0:aT b 116=.int .i64 x.noany:=hI.got 48 (of_decide_eq_true rfl) (edge hED 48 (by kernel_rfl)) rfl
       refine opw_call 81 #[.tmp 116] _ _ _ rfl Tryz.func81 (by kernel_rfl) rfl #[.int .i64 x.noany] (by simp [ev,f0]) ?_
       refine (l9Num_R x.noany 0 W).mono ?_
       rintro r W2 ⟨⟨a17,n17,c17,k17,m17,e17,rfl,hzI⟩,hb⟩
       exact ⟨_,rfl,hKQ.out _ _ (hI.put 49 117 rfl rfl (by rw [hz]; decide) rfl hUN rfl HBB (cd4b_stb s x am cm ao cc 0 w1.heap.size w.heap.size (w.heap.size)) hb ⟨a17,n17,c17,k17,m17,e17,rfl,((hzI.mono (Nat.le_trans HW1Q hI.bel.size)).le (by decide)),HGB⟩)⟩
      ·intro lQ b W hI hUN hED KQ hKQ
       exact opw_move 5 rfl (hKQ.out _ _ (hI.put 50 118 rfl rfl (by rw [hz]; decide) rfl hUN rfl HBB (cd4b_stb s x am cm ao cc 0 w1.heap.size w.heap.size (w.heap.size)) (Below.refl _ _) ((hI.fr.same 5 (by decide)).trans g5)))
      ·intro lQ b W hI hUN hED KQ hKQ
       obtain ⟨hl0,_⟩:=hI.vot 58 (of_decide_eq_true rfl) (of_decide_eq_true rfl) rfl
       have f0:aT b 118=.slice ao s.n8 cc:=hI.got 50 (of_decide_eq_true rfl) (edge hED 50 (by kernel_rfl)) rfl
       refine opw_call 89 #[.tmp 118] _ _ _ rfl Tryz.func89 (by kernel_rfl) rfl #[.slice ao s.n8 cc] (by simp [ev,f0]) ?_
       refine (l9List_R hl0).mono ?_
       rintro r W2 ⟨⟨a18,n18,c18,k18,m18,e18,rfl,hzI⟩,hb⟩
       exact ⟨_,rfl,hKQ.out _ _ (hI.put 51 119 rfl rfl (by rw [hz]; decide) rfl hUN rfl HBB (cd4b_stb s x am cm ao cc 0 w1.heap.size w.heap.size (w.heap.size)) hb ⟨a18,n18,c18,k18,m18,e18,rfl,(hzI.le (by decide)),HGB⟩)⟩
      ·intro lQ b W hI hUN hED KQ hKQ
       obtain ⟨a1,n1,c1,k1,m1,e1,f1,o1,_⟩:=hI.got 2 (of_decide_eq_true rfl) (edge hED 2 (by kernel_rfl)) rfl
       replace f1:aT b 70=.agg #[.int .i64 (numI x.ser).cls,.int .i64 (numI x.ser).tag,.bool (numI x.ser).cons,.slice a1 n1 c1,.slice k1 m1 e1]:=f1
       obtain ⟨a2,n2,c2,k2,m2,e2,f2,o2,_⟩:=hI.got 5 (of_decide_eq_true rfl) (edge hED 5 (by kernel_rfl)) rfl
       replace f2:aT b 73=.agg #[.int .i64 (namI x.iss).cls,.int .i64 (namI x.iss).tag,.bool (namI x.iss).cons,.slice a2 n2 c2,.slice k2 m2 e2]:=f2
       obtain ⟨a3,n3,c3,k3,m3,e3,f3,o3,_⟩:=hI.got 8 (of_decide_eq_true rfl) (edge hED 8 (by kernel_rfl)) rfl
       replace f3:aT b 76=.agg #[.int .i64 (namI x.sub).cls,.int .i64 (namI x.sub).tag,.bool (namI x.sub).cons,.slice a3 n3 c3,.slice k3 m3 e3]:=f3
       obtain ⟨a4,n4,c4,k4,m4,e4,f4,o4,_⟩:=hI.got 11 (of_decide_eq_true rfl) (edge hED 11 (by kernel_rfl)) rfl
       replace f4:aT b 79=.agg #[.int .i64 (numI x.frm).cls,.int .i64 (numI x.frm).tag,.bool (numI x.frm).cons,.slice a4 n4 c4,.slice k4 m4 e4]:=f4
       obtain ⟨a5,n5,c5,k5,m5,e5,f5,o5,_⟩:=hI.got 14 (of_decide_eq_true rfl) (edge hED 14 (by kernel_rfl)) rfl
       replace f5:aT b 82=.agg #[.int .i64 (numI x.til).cls,.int .i64 (numI x.til).tag,.bool (numI x.til).cons,.slice a5 n5 c5,.slice k5 m5 e5]:=f5
       obtain ⟨a6,n6,c6,k6,m6,e6,f6,o6,_⟩:=hI.got 17 (of_decide_eq_true rfl) (edge hED 17 (by kernel_rfl)) rfl
       replace f6:aT b 85=.agg #[.int .i64 (kyI x.key).cls,.int .i64 (kyI x.key).tag,.bool (kyI x.key).cons,.slice a6 n6 c6,.slice k6 m6 e6]:=f6
       obtain ⟨a7,n7,c7,k7,m7,e7,f7,o7,_⟩:=hI.got 20 (of_decide_eq_true rfl) (edge hED 20 (by kernel_rfl)) rfl
       replace f7:aT b 88=.agg #[.int .i64 (flgI x.ca).cls,.int .i64 (flgI x.ca).tag,.bool (flgI x.ca).cons,.slice a7 n7 c7,.slice k7 m7 e7]:=f7
       obtain ⟨a8,n8,c8,k8,m8,e8,f8,o8,_⟩:=hI.got 23 (of_decide_eq_true rfl) (edge hED 23 (by kernel_rfl)) rfl
       replace f8:aT b 91=.agg #[.int .i64 (numI x.room).cls,.int .i64 (numI x.room).tag,.bool (numI x.room).cons,.slice a8 n8 c8,.slice k8 m8 e8]:=f8
       obtain ⟨a9,n9,c9,k9,m9,e9,f9,o9,_⟩:=hI.got 26 (of_decide_eq_true rfl) (edge hED 26 (by kernel_rfl)) rfl
       replace f9:aT b 94=.agg #[.int .i64 (numI x.uses).cls,.int .i64 (numI x.uses).tag,.bool (numI x.uses).cons,.slice a9 n9 c9,.slice k9 m9 e9]:=f9
       obtain ⟨a10,n10,c10,k10,m10,e10,f10,o10,_⟩:=hI.got 29 (of_decide_eq_true rfl) (edge hED 29 (by kernel_rfl)) rfl
       replace f10:aT b 97=.agg #[.int .i64 (lstI (x.nms.map gneI)).cls,.int .i64 (lstI (x.nms.map gneI)).tag,.bool (lstI (x.nms.map gneI)).cons,.slice a10 n10 c10,.slice k10 m10 e10]:=f10
       obtain ⟨a11,n11,c11,k11,m11,e11,f11,o11,_⟩:=hI.got 32 (of_decide_eq_true rfl) (edge hED 32 (by kernel_rfl)) rfl
       replace f11:aT b 100=.agg #[.int .i64 (lstI (x.per.map gneI)).cls,.int .i64 (lstI (x.per.map gneI)).tag,.bool (lstI (x.per.map gneI)).cons,.slice a11 n11 c11,.slice k11 m11 e11]:=f11
       obtain ⟨a12,n12,c12,k12,m12,e12,f12,o12,_⟩:=hI.got 35 (of_decide_eq_true rfl) (edge hED 35 (by kernel_rfl)) rfl
       replace f12:aT b 103=.agg #[.int .i64 (lstI (x.den.map gneI)).cls,.int .i64 (lstI (x.den.map gneI)).tag,.bool (lstI (x.den.map gneI)).cons,.slice a12 n12 c12,.slice k12 m12 e12]:=f12
       obtain ⟨a13,n13,c13,k13,m13,e13,f13,o13,_⟩:=hI.got 38 (of_decide_eq_true rfl) (edge hED 38 (by kernel_rfl)) rfl
       replace f13:aT b 106=.agg #[.int .i64 (lstI (x.pol.map numI)).cls,.int .i64 (lstI (x.pol.map numI)).tag,.bool (lstI (x.pol.map numI)).cons,.slice a13 n13 c13,.slice k13 m13 e13]:=f13
       obtain ⟨a14,n14,c14,k14,m14,e14,f14,o14,_⟩:=hI.got 40 (of_decide_eq_true rfl) (edge hED 40 (by kernel_rfl)) rfl
       replace f14:aT b 108=.agg #[.int .i64 (lstI (x.maps.map mapI)).cls,.int .i64 (lstI (x.maps.map mapI)).tag,.bool (lstI (x.maps.map mapI)).cons,.slice a14 n14 c14,.slice k14 m14 e14]:=f14
       obtain ⟨a15,n15,c15,k15,m15,e15,f15,o15,_⟩:=hI.got 43 (of_decide_eq_true rfl) (edge hED 43 (by kernel_rfl)) rfl
       replace f15:aT b 111=.agg #[.int .i64 (numI x.need).cls,.int .i64 (numI x.need).tag,.bool (numI x.need).cons,.slice a15 n15 c15,.slice k15 m15 e15]:=f15
       obtain ⟨a16,n16,c16,k16,m16,e16,f16,o16,_⟩:=hI.got 46 (of_decide_eq_true rfl) (edge hED 46 (by kernel_rfl)) rfl
       replace f16:aT b 114=.agg #[.int .i64 (numI x.nomap).cls,.int .i64 (numI x.nomap).tag,.bool (numI x.nomap).cons,.slice a16 n16 c16,.slice k16 m16 e16]:=f16
       obtain ⟨a17,n17,c17,k17,m17,e17,f17,o17,_⟩:=hI.got 49 (of_decide_eq_true rfl) (edge hED 49 (by kernel_rfl)) rfl
       replace f17:aT b 117=.agg #[.int .i64 (numI x.noany).cls,.int .i64 (numI x.noany).tag,.bool (numI x.noany).cons,.slice a17 n17 c17,.slice k17 m17 e17]:=f17
       obtain ⟨a18,n18,c18,k18,m18,e18,f18,o18,_⟩:=hI.got 51 (of_decide_eq_true rfl) (edge hED 51 (by kernel_rfl)) rfl
       replace f18:aT b 119=.agg #[.int .i64 (lstI (x.ext.map exI)).cls,.int .i64 (lstI (x.ext.map exI)).tag,.bool (lstI (x.ext.map exI)).cons,.slice a18 n18 c18,.slice k18 m18 e18]:=f18
       refine opw_buildSliceT _ 18 _ rfl #[(0,.agg #[.int .i64 (numI x.ser).cls,.int .i64 (numI x.ser).tag,.bool (numI x.ser).cons,.slice a1 n1 c1,.slice k1 m1 e1]),(1,.agg #[.int .i64 (namI x.iss).cls,.int .i64 (namI x.iss).tag,.bool (namI x.iss).cons,.slice a2 n2 c2,.slice k2 m2 e2]),(2,.agg #[.int .i64 (namI x.sub).cls,.int .i64 (namI x.sub).tag,.bool (namI x.sub).cons,.slice a3 n3 c3,.slice k3 m3 e3]),(3,.agg #[.int .i64 (numI x.frm).cls,.int .i64 (numI x.frm).tag,.bool (numI x.frm).cons,.slice a4 n4 c4,.slice k4 m4 e4]),(4,.agg #[.int .i64 (numI x.til).cls,.int .i64 (numI x.til).tag,.bool (numI x.til).cons,.slice a5 n5 c5,.slice k5 m5 e5]),(5,.agg #[.int .i64 (kyI x.key).cls,.int .i64 (kyI x.key).tag,.bool (kyI x.key).cons,.slice a6 n6 c6,.slice k6 m6 e6]),(6,.agg #[.int .i64 (flgI x.ca).cls,.int .i64 (flgI x.ca).tag,.bool (flgI x.ca).cons,.slice a7 n7 c7,.slice k7 m7 e7]),(7,.agg #[.int .i64 (numI x.room).cls,.int .i64 (numI x.room).tag,.bool (numI x.room).cons,.slice a8 n8 c8,.slice k8 m8 e8]),(8,.agg #[.int .i64 (numI x.uses).cls,.int .i64 (numI x.uses).tag,.bool (numI x.uses).cons,.slice a9 n9 c9,.slice k9 m9 e9]),(9,.agg #[.int .i64 (lstI (x.nms.map gneI)).cls,.int .i64 (lstI (x.nms.map gneI)).tag,.bool (lstI (x.nms.map gneI)).cons,.slice a10 n10 c10,.slice k10 m10 e10]),(10,.agg #[.int .i64 (lstI (x.per.map gneI)).cls,.int .i64 (lstI (x.per.map gneI)).tag,.bool (lstI (x.per.map gneI)).cons,.slice a11 n11 c11,.slice k11 m11 e11]),(11,.agg #[.int .i64 (lstI (x.den.map gneI)).cls,.int .i64 (lstI (x.den.map gneI)).tag,.bool (lstI (x.den.map gneI)).cons,.slice a12 n12 c12,.slice k12 m12 e12]),(12,.agg #[.int .i64 (lstI (x.pol.map numI)).cls,.int .i64 (lstI (x.pol.map numI)).tag,.bool (lstI (x.pol.map numI)).cons,.slice a13 n13 c13,.slice k13 m13 e13]),(13,.agg #[.int .i64 (lstI (x.maps.map mapI)).cls,.int .i64 (lstI (x.maps.map mapI)).tag,.bool (lstI (x.maps.map mapI)).cons,.slice a14 n14 c14,.slice k14 m14 e14]),(14,.agg #[.int .i64 (numI x.need).cls,.int .i64 (numI x.need).tag,.bool (numI x.need).cons,.slice a15 n15 c15,.slice k15 m15 e15]),(15,.agg #[.int .i64 (numI x.nomap).cls,.int .i64 (numI x.nomap).tag,.bool (numI x.nomap).cons,.slice a16 n16 c16,.slice k16 m16 e16]),(16,.agg #[.int .i64 (numI x.noany).cls,.int .i64 (numI x.noany).tag,.bool (numI x.noany).cons,.slice a17 n17 c17,.slice k17 m17 e17]),(17,.agg #[.int .i64 (lstI (x.ext.map exI)).cls,.int .i64 (lstI (x.ext.map exI)).tag,.bool (lstI (x.ext.map exI)).cons,.slice a18 n18 c18,.slice k18 m18 e18])] (by simp [ev,f1,f2,f3,f4,f5,f6,f7,f8,f9,f10,f11,f12,f13,f14,f15,f16,f17,f18]) (.slice (some ⟨W.heap.size,0,none⟩) 18 18) (W.alloc (.cells #[.int .i64 (numI x.ser).cls,.int .i64 (numI x.ser).tag,.bool (numI x.ser).cons,.slice a1 n1 c1,.slice k1 m1 e1,.int .i64 (namI x.iss).cls,.int .i64 (namI x.iss).tag,.bool (namI x.iss).cons,.slice a2 n2 c2,.slice k2 m2 e2,.int .i64 (namI x.sub).cls,.int .i64 (namI x.sub).tag,.bool (namI x.sub).cons,.slice a3 n3 c3,.slice k3 m3 e3,.int .i64 (numI x.frm).cls,.int .i64 (numI x.frm).tag,.bool (numI x.frm).cons,.slice a4 n4 c4,.slice k4 m4 e4,.int .i64 (numI x.til).cls,.int .i64 (numI x.til).tag,.bool (numI x.til).cons,.slice a5 n5 c5,.slice k5 m5 e5,.int .i64 (kyI x.key).cls,.int .i64 (kyI x.key).tag,.bool (kyI x.key).cons,.slice a6 n6 c6,.slice k6 m6 e6,.int .i64 (flgI x.ca).cls,.int .i64 (flgI x.ca).tag,.bool (flgI x.ca).cons,.slice a7 n7 c7,.slice k7 m7 e7,.int .i64 (numI x.room).cls,.int .i64 (numI x.room).tag,.bool (numI x.room).cons,.slice a8 n8 c8,.slice k8 m8 e8,.int .i64 (numI x.uses).cls,.int .i64 (numI x.uses).tag,.bool (numI x.uses).cons,.slice a9 n9 c9,.slice k9 m9 e9,.int .i64 (lstI (x.nms.map gneI)).cls,.int .i64 (lstI (x.nms.map gneI)).tag,.bool (lstI (x.nms.map gneI)).cons,.slice a10 n10 c10,.slice k10 m10 e10,.int .i64 (lstI (x.per.map gneI)).cls,.int .i64 (lstI (x.per.map gneI)).tag,.bool (lstI (x.per.map gneI)).cons,.slice a11 n11 c11,.slice k11 m11 e11,.int .i64 (lstI (x.den.map gneI)).cls,.int .i64 (lstI (x.den.map gneI)).tag,.bool (lstI (x.den.map gneI)).cons,.slice a12 n12 c12,.slice k12 m12 e12,.int .i64 (lstI (x.pol.map numI)).cls,.int .i64 (lstI (x.pol.map numI)).tag,.bool (lstI (x.pol.map numI)).cons,.slice a13 n13 c13,.slice k13 m13 e13,.int .i64 (lstI (x.maps.map mapI)).cls,.int .i64 (lstI (x.maps.map mapI)).tag,.bool (lstI (x.maps.map mapI)).cons,.slice a14 n14 c14,.slice k14 m14 e14,.int .i64 (numI x.need).cls,.int .i64 (numI x.need).tag,.bool (numI x.need).cons,.slice a15 n15 c15,.slice k15 m15 e15,.int .i64 (numI x.nomap).cls,.int .i64 (numI x.nomap).tag,.bool (numI x.nomap).cons,.slice a16 n16 c16,.slice k16 m16 e16,.int .i64 (numI x.noany).cls,.int .i64 (numI x.noany).tag,.bool (numI x.noany).cons,.slice a17 n17 c17,.slice k17 m17 e17,.int .i64 (lstI (x.ext.map exI)).cls,.int .i64 (lstI (x.ext.map exI)).tag,.bool (lstI (x.ext.map exI)).cons,.slice a18 n18 c18,.slice k18 m18 e18] 75)) (by kernel_rfl) ?_
       exact hKQ.out _ _ (hI.put 52 120 rfl rfl (by rw [hz]; decide) rfl hUN rfl HBB (cd4b_stb s x am cm ao cc 0 w1.heap.size w.heap.size (w.heap.size)) ((Below.refl _ _).alloc (Nat.le_refl _) _) ⟨W.heap.size,rfl,kidZ_n18 (Nat.le_trans HW1Q hI.bel.size) o1 o2 o3 o4 o5 o6 o7 o8 o9 o10 o11 o12 o13 o14 o15 o16 o17 o18,HGB⟩)
      ·intro lQ b W hI hUN hED KQ hKQ
       obtain ⟨gr,f0,o0,_⟩:=hI.got 52 (of_decide_eq_true rfl) (edge hED 52 (by kernel_rfl)) rfl
       replace f0:aT b 120=.slice (some ⟨gr,0,none⟩) 18 18:=f0
       refine opw_call 84 #[.const (.int .i64 1),.const (.int .i64 1),.tmp 120] _ _ _ rfl Tryz.func84 (by kernel_rfl) rfl #[.int .i64 1,.int .i64 1,.slice (some ⟨gr,0,none⟩) 18 18] (by simp [ev,evc,f0]) ?_
       refine (l2Box_R 1 o0 rfl).mono ?_
       rintro r W2 ⟨⟨a0,n0,c0,k0,m0,e0,rfl,hzI⟩,hb⟩
       exact ⟨_,rfl,hKQ.out _ _ (hI.put 53 121 rfl rfl (by rw [hz]; decide) rfl hUN rfl HBB (cd4b_stb s x am cm ao cc 0 w1.heap.size w.heap.size (w.heap.size)) hb ⟨a0,n0,c0,k0,m0,e0,rfl,hzI,HGB⟩)⟩
      ·intro lQ b W hI hUN hED KQ hKQ
       have hgb:=(hI.vot1 56 54 (of_decide_eq_true rfl) (of_decide_eq_true rfl) hUN rfl)
       have fb:=((hI.fr.same 2 (by decide)).trans g2)
       have f:=hI.got 53 (of_decide_eq_true rfl) (edge hED 53 (by kernel_rfl)) rfl
       obtain ⟨a0,n0,c0,k0,m0,e0,f,o_0,o_1⟩:=f
       refine wp_store_row 75 _ _ rfl ((w.heap.size+1)) #[.int .i64 (boxI 1 (ceK x)).cls,.int .i64 (boxI 1 (ceK x)).tag,.bool (boxI 1 (ceK x)).cons,.slice a0 n0 c0,.slice k0 m0 e0] fb f 75 _ hgb (by kernel_rfl) rfl (by simp [Value.oneCell']) ?_
       have ht:=setRow_touch W ((w.heap.size+1)) #[.int .i64 (boxI 1 (ceK x)).cls,.int .i64 (boxI 1 (ceK x)).tag,.bool (boxI 1 (ceK x)).cons,.slice a0 n0 c0,.slice k0 m0 e0]
       exact hKQ.out _ _ (hI.store 54 (fun j hj=>by cases hj) (hI.bel.trans (ht.below (by first | exact HGE2 | omega) (Nat.le_trans HBB hI.bel.size))) (cd4b_st54 s x am cm ao cc 0 w1.heap.size w.heap.size (w.heap.size) hgb ht) ⟨a0,n0,c0,k0,m0,e0,(setRow_heap W ((w.heap.size+1)) _ _ _ _ hgb),o_0.touched ht (by omega),o_1⟩)
     ·intro b W hf hb F
      obtain ⟨a0,n0,c0,k0,m0,e0,hbx9,hz,_⟩:=F 54 (of_decide_eq_true rfl) rfl
      rw [hf.eq]
      simp only [puts,Act.put,List.setIfInBounds_toArray,List.set_cons_zero,List.set_cons_succ]
      clear hf F
      generalize aT b=AT
      clear b
      go_wp2
      try simp only [Exit.inBlock,Exit.then]
      exact bodyPost_ret (results_it rfl _ (w.heap.size+1) rfl _ _ _ _ _ _ hbx9) rfl ⟨⟨a0,n0,c0,k0,m0,e0,rfl,hz.mono (by omega)⟩,hbA.trans hb⟩
end Go.Proofs.YtmdfbnlgfhjnoaaGreatDoor
