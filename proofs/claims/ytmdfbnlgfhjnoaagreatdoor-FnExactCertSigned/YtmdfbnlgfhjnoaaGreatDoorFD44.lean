import Derived.Test.YtmdfbnlgfhjnoaaGreatDoorFD42
import Derived.Test.YtmdfbnlgfhjnoaaGreatDoorFD43
set_option maxRecDepth 10000
set_option maxHeartbeats 8000000
set_option linter.unusedVariables false
namespace Go.Proofs.YtmdfbnlgfhjnoaaGreatDoor
open Go.RowKit Go.Sort
structure CeS (s:CES)(x:CE):Prop where
 l1:s.n1≤1000
 l2:s.n2≤1000
 l3:s.n3≤1000
 l4:s.n4≤1000
 l5:s.n5≤1000
 l6:s.n6≤1000
 l7:s.n7≤1000
 l8:s.n8≤1000
 l9:s.n9≤1000
 key:U64 x.key.2.1
 iss:∀ k,k<s.n1→(x.iss.getD k default).val.size≤1000
 sub:∀ k,k<s.n2→(x.sub.getD k default).val.size≤1000
 nms:∀ k,k<s.n3→GeS (x.nms.getD k default)
 per:∀ k,k<s.n4→GeS (x.per.getD k default)
 den:∀ k,k<s.n5→GeS (x.den.getD k default)
 ext:∀ k,k<s.n8→(x.ext.getD k default).val.length≤1000
def cd4m (s:CES)(x:CE)(y:Int × Int)(b0 off:Nat)(ao:Option Addr)(kq cc:Nat)(es0:List It)(Q R G B:Nat):RSpec where
 m:=20
 n:=23
 slots:=[15,16,17,18,19,20,21,22,23,24,25,26,27,28,29,30,31,32,33,3,100020,100021,3]
 kills:=[[],[],[],[],[],[],[],[],[],[],[],[],[],[],[],[],[],[],[],[],[],[18],[19]]
 pres:=[[],[],[],[],[],[],[],[],[],[],[],[],[],[],[],[],[],[],[0],[18],[],[],[]]
 fact:=fun k v w=>match k with
  | 0=>v=.slice ao kq cc
  | 1=>v=.pointer (some ⟨G,15,none⟩)
  | 2=>v=.slice s.a7 s.n7 s.c7
  | 3=>v=.int .i64 (kq:Int)
  | 4=>v=.pointer (some ⟨b0,off+kq * 2,none⟩)
  | 5=>v=.pointer (some ⟨b0,off+kq * 2,none⟩)
  | 6=>v=.int .i64 y.1
  | 7=>∃ a1 n1 c1 k1 m1 e1,v=.agg #[.int .i64 (numI y.1).cls,.int .i64 (numI y.1).tag,.bool (numI y.1).cons,.slice a1 n1 c1,.slice k1 m1 e1]∧ItZ 0 Q 1 w (numI y.1) a1 n1 c1 k1 m1 e1
  | 8=>v=.pointer (some ⟨G,15,none⟩)
  | 9=>v=.slice s.a7 s.n7 s.c7
  | 10=>v=.int .i64 (kq:Int)
  | 11=>v=.pointer (some ⟨b0,off+kq * 2,none⟩)
  | 12=>v=.pointer (some ⟨b0,off+kq * 2+1,none⟩)
  | 13=>v=.int .i64 y.2
  | 14=>∃ a2 n2 c2 k2 m2 e2,v=.agg #[.int .i64 (numI y.2).cls,.int .i64 (numI y.2).tag,.bool (numI y.2).cons,.slice a2 n2 c2,.slice k2 m2 e2]∧ItZ 0 Q 1 w (numI y.2) a2 n2 c2 k2 m2 e2
  | 15=>∃ gr,v=.slice (some ⟨gr,0,none⟩) 2 2∧KidZ 0 Q w gr 2 [numI y.1,numI y.2]
  | 16=>∃ a0 n0 c0 k0 m0 e0,v=.agg #[.int .i64 (mapI y).cls,.int .i64 (mapI y).tag,.bool (mapI y).cons,.slice a0 n0 c0,.slice k0 m0 e0]∧ItZ 0 Q 2 w (mapI y) a0 n0 c0 k0 m0 e0
  | 17=>∃ g8 a0 n0 c0 k0 m0 e0,v=.slice (some ⟨g8,0,none⟩) 1 1∧w.heap[g8]? = some (.cells #[.int .i64 (mapI y).cls,.int .i64 (mapI y).tag,.bool (mapI y).cons,.slice a0 n0 c0,.slice k0 m0 e0] 75 (0,0))∧ItZ 0 Q 2 w (mapI y) a0 n0 c0 k0 m0 e0∧Q≤g8
  | 18=>∃ gf cf,v=.slice (some ⟨gf,0,none⟩) (kq+1) cf∧OwnItZ 2 0 R w (some ⟨gf,0,none⟩) (kq+1) cf (es0++[mapI y])
  | 19=>∃ gf cf,v=.slice (some ⟨gf,0,none⟩) (kq+1) cf∧OwnItZ 2 0 R w (some ⟨gf,0,none⟩) (kq+1) cf (es0++[mapI y])
  | 20=>w.heap[G]? = some (.cells #[.int .i64 x.ser,.slice s.a1 s.n1 s.c1,.slice s.a2 s.n2 s.c2,.int .i64 x.frm,.int .i64 x.til,.int .i64 x.key.1,.int .u64 x.key.2.1,.int .i64 x.key.2.2,.bool x.ca,.int .i64 x.room,.int .i64 x.uses,.slice s.a3 s.n3 s.c3,.slice s.a4 s.n4 s.c4,.slice s.a5 s.n5 s.c5,.slice s.a6 s.n6 s.c6,.slice s.a7 s.n7 s.c7,.int .i64 x.need,.int .i64 x.nomap,.int .i64 x.noany,.slice s.a8 s.n8 s.c8,.slice s.a9 s.n9 s.c9] 46 (0,0))
  | 21=>OwnItZ 2 0 R w ao kq cc es0
  | _=>v=.slice ao kq cc
theorem cd4m_stb (s:CES)(x:CE)(y:Int × Int)(b0 off:Nat)(ao:Option Addr)(kq cc:Nat)(es0:List It)(Q R G B:Nat)(k:Nat)(hk:k<23):StB ((cd4m s x y b0 off ao kq cc es0 Q R G (B)).fact k):=by
 match k,hk with
 | 0,_=>exact fun _ _ _ h _=>h
 | 1,_=>exact fun _ _ _ h _=>h
 | 2,_=>exact fun _ _ _ h _=>h
 | 3,_=>exact fun _ _ _ h _=>h
 | 4,_=>exact fun _ _ _ h _=>h
 | 5,_=>exact fun _ _ _ h _=>h
 | 6,_=>exact fun _ _ _ h _=>h
 | 7,_=>exact fun _ _ _ ⟨a1,n1,c1,k1,m1,e1,hv,q_0⟩ hb=>⟨a1,n1,c1,k1,m1,e1,hv,q_0.kept hb⟩
 | 8,_=>exact fun _ _ _ h _=>h
 | 9,_=>exact fun _ _ _ h _=>h
 | 10,_=>exact fun _ _ _ h _=>h
 | 11,_=>exact fun _ _ _ h _=>h
 | 12,_=>exact fun _ _ _ h _=>h
 | 13,_=>exact fun _ _ _ h _=>h
 | 14,_=>exact fun _ _ _ ⟨a2,n2,c2,k2,m2,e2,hv,q_0⟩ hb=>⟨a2,n2,c2,k2,m2,e2,hv,q_0.kept hb⟩
 | 15,_=>exact fun _ _ _ ⟨gr,hv,q_0⟩ hb=>⟨gr,hv,q_0.kept hb⟩
 | 16,_=>exact fun _ _ _ ⟨a0,n0,c0,k0,m0,e0,hv,q_0⟩ hb=>⟨a0,n0,c0,k0,m0,e0,hv,q_0.kept hb⟩
 | 17,_=>exact fun _ _ _ ⟨g8,a0,n0,c0,k0,m0,e0,hv,q_0,q_1,q_2⟩ hb=>⟨g8,a0,n0,c0,k0,m0,e0,hv,below_kept q_0 hb,q_1.kept hb,q_2⟩
 | 18,_=>exact fun _ _ _ ⟨gf,cf,hv,q_0⟩ hb=>⟨gf,cf,hv,q_0.kept hb⟩
 | 19,_=>exact fun _ _ _ ⟨gf,cf,hv,q_0⟩ hb=>⟨gf,cf,hv,q_0.kept hb⟩
 | 20,_=>exact fun _ _ _ q_0 hb=>below_kept q_0 hb
 | 21,_=>exact fun _ _ _ q_0 hb=>q_0.kept hb
 | 22,_=>exact fun _ _ _ h _=>h
 | k+23,hk=>omega
def cd4e (s:CES)(x:CE)(y:XP)(sa:Option Addr)(sn sc:Nat)(b0 off:Nat)(ao:Option Addr)(kq cc:Nat)(es0:List It)(Q R G B:Nat):RSpec where
 m:=27
 n:=30
 slots:=[42,43,44,45,46,47,48,49,50,51,52,53,54,55,56,57,58,59,60,61,62,63,64,65,66,67,5,100027,100028,5]
 kills:=[[],[],[],[],[],[],[],[],[],[],[],[],[],[],[],[],[],[],[],[],[],[],[],[],[],[],[],[],[25],[26]]
 pres:=[[],[],[],[],[],[],[],[],[],[],[],[],[],[],[],[],[],[],[],[],[],[],[],[],[],[0],[25],[],[],[]]
 fact:=fun k v w=>match k with
  | 0=>v=.slice ao kq cc
  | 1=>v=.pointer (some ⟨G,19,none⟩)
  | 2=>v=.slice s.a8 s.n8 s.c8
  | 3=>v=.int .i64 (kq:Int)
  | 4=>v=.pointer (some ⟨b0,off+kq * 3,none⟩)
  | 5=>v=.pointer (some ⟨b0,off+kq * 3,none⟩)
  | 6=>v=.int .i64 y.id
  | 7=>∃ a1 n1 c1 k1 m1 e1,v=.agg #[.int .i64 (numI y.id).cls,.int .i64 (numI y.id).tag,.bool (numI y.id).cons,.slice a1 n1 c1,.slice k1 m1 e1]∧ItZ 0 Q 1 w (numI y.id) a1 n1 c1 k1 m1 e1
  | 8=>v=.pointer (some ⟨G,19,none⟩)
  | 9=>v=.slice s.a8 s.n8 s.c8
  | 10=>v=.int .i64 (kq:Int)
  | 11=>v=.pointer (some ⟨b0,off+kq * 3,none⟩)
  | 12=>v=.pointer (some ⟨b0,off+kq * 3+1,none⟩)
  | 13=>v=.bool y.crit
  | 14=>∃ a2 n2 c2 k2 m2 e2,v=.agg #[.int .i64 (flgI y.crit).cls,.int .i64 (flgI y.crit).tag,.bool (flgI y.crit).cons,.slice a2 n2 c2,.slice k2 m2 e2]∧ItZ 0 Q 1 w (flgI y.crit) a2 n2 c2 k2 m2 e2
  | 15=>v=.pointer (some ⟨G,19,none⟩)
  | 16=>v=.slice s.a8 s.n8 s.c8
  | 17=>v=.int .i64 (kq:Int)
  | 18=>v=.pointer (some ⟨b0,off+kq * 3,none⟩)
  | 19=>v=.pointer (some ⟨b0,off+kq * 3+2,none⟩)
  | 20=>v=.slice sa sn sc
  | 21=>∃ a3 n3 c3 k3 m3 e3,v=.agg #[.int .i64 (bytI y.val).cls,.int .i64 (bytI y.val).tag,.bool (bytI y.val).cons,.slice a3 n3 c3,.slice k3 m3 e3]∧ItZ 0 Q 1 w (bytI y.val) a3 n3 c3 k3 m3 e3
  | 22=>∃ gr,v=.slice (some ⟨gr,0,none⟩) 3 3∧KidZ 0 Q w gr 2 [numI y.id,flgI y.crit,bytI y.val]
  | 23=>∃ a0 n0 c0 k0 m0 e0,v=.agg #[.int .i64 (exI y).cls,.int .i64 (exI y).tag,.bool (exI y).cons,.slice a0 n0 c0,.slice k0 m0 e0]∧ItZ 0 Q 2 w (exI y) a0 n0 c0 k0 m0 e0
  | 24=>∃ g8 a0 n0 c0 k0 m0 e0,v=.slice (some ⟨g8,0,none⟩) 1 1∧w.heap[g8]? = some (.cells #[.int .i64 (exI y).cls,.int .i64 (exI y).tag,.bool (exI y).cons,.slice a0 n0 c0,.slice k0 m0 e0] 75 (0,0))∧ItZ 0 Q 2 w (exI y) a0 n0 c0 k0 m0 e0∧Q≤g8
  | 25=>∃ gf cf,v=.slice (some ⟨gf,0,none⟩) (kq+1) cf∧OwnItZ 2 0 R w (some ⟨gf,0,none⟩) (kq+1) cf (es0++[exI y])
  | 26=>∃ gf cf,v=.slice (some ⟨gf,0,none⟩) (kq+1) cf∧OwnItZ 2 0 R w (some ⟨gf,0,none⟩) (kq+1) cf (es0++[exI y])
  | 27=>w.heap[G]? = some (.cells #[.int .i64 x.ser,.slice s.a1 s.n1 s.c1,.slice s.a2 s.n2 s.c2,.int .i64 x.frm,.int .i64 x.til,.int .i64 x.key.1,.int .u64 x.key.2.1,.int .i64 x.key.2.2,.bool x.ca,.int .i64 x.room,.int .i64 x.uses,.slice s.a3 s.n3 s.c3,.slice s.a4 s.n4 s.c4,.slice s.a5 s.n5 s.c5,.slice s.a6 s.n6 s.c6,.slice s.a7 s.n7 s.c7,.int .i64 x.need,.int .i64 x.nomap,.int .i64 x.noany,.slice s.a8 s.n8 s.c8,.slice s.a9 s.n9 s.c9] 46 (0,0))
  | 28=>OwnItZ 2 0 R w ao kq cc es0
  | _=>v=.slice ao kq cc
theorem cd4e_stb (s:CES)(x:CE)(y:XP)(sa:Option Addr)(sn sc:Nat)(b0 off:Nat)(ao:Option Addr)(kq cc:Nat)(es0:List It)(Q R G B:Nat)(k:Nat)(hk:k<30):StB ((cd4e s x y sa sn sc b0 off ao kq cc es0 Q R G (B)).fact k):=by
 match k,hk with
 | 0,_=>exact fun _ _ _ h _=>h
 | 1,_=>exact fun _ _ _ h _=>h
 | 2,_=>exact fun _ _ _ h _=>h
 | 3,_=>exact fun _ _ _ h _=>h
 | 4,_=>exact fun _ _ _ h _=>h
 | 5,_=>exact fun _ _ _ h _=>h
 | 6,_=>exact fun _ _ _ h _=>h
 | 7,_=>exact fun _ _ _ ⟨a1,n1,c1,k1,m1,e1,hv,q_0⟩ hb=>⟨a1,n1,c1,k1,m1,e1,hv,q_0.kept hb⟩
 | 8,_=>exact fun _ _ _ h _=>h
 | 9,_=>exact fun _ _ _ h _=>h
 | 10,_=>exact fun _ _ _ h _=>h
 | 11,_=>exact fun _ _ _ h _=>h
 | 12,_=>exact fun _ _ _ h _=>h
 | 13,_=>exact fun _ _ _ h _=>h
 | 14,_=>exact fun _ _ _ ⟨a2,n2,c2,k2,m2,e2,hv,q_0⟩ hb=>⟨a2,n2,c2,k2,m2,e2,hv,q_0.kept hb⟩
 | 15,_=>exact fun _ _ _ h _=>h
 | 16,_=>exact fun _ _ _ h _=>h
 | 17,_=>exact fun _ _ _ h _=>h
 | 18,_=>exact fun _ _ _ h _=>h
 | 19,_=>exact fun _ _ _ h _=>h
 | 20,_=>exact fun _ _ _ h _=>h
 | 21,_=>exact fun _ _ _ ⟨a3,n3,c3,k3,m3,e3,hv,q_0⟩ hb=>⟨a3,n3,c3,k3,m3,e3,hv,q_0.kept hb⟩
 | 22,_=>exact fun _ _ _ ⟨gr,hv,q_0⟩ hb=>⟨gr,hv,q_0.kept hb⟩
 | 23,_=>exact fun _ _ _ ⟨a0,n0,c0,k0,m0,e0,hv,q_0⟩ hb=>⟨a0,n0,c0,k0,m0,e0,hv,q_0.kept hb⟩
 | 24,_=>exact fun _ _ _ ⟨g8,a0,n0,c0,k0,m0,e0,hv,q_0,q_1,q_2⟩ hb=>⟨g8,a0,n0,c0,k0,m0,e0,hv,below_kept q_0 hb,q_1.kept hb,q_2⟩
 | 25,_=>exact fun _ _ _ ⟨gf,cf,hv,q_0⟩ hb=>⟨gf,cf,hv,q_0.kept hb⟩
 | 26,_=>exact fun _ _ _ ⟨gf,cf,hv,q_0⟩ hb=>⟨gf,cf,hv,q_0.kept hb⟩
 | 27,_=>exact fun _ _ _ q_0 hb=>below_kept q_0 hb
 | 28,_=>exact fun _ _ _ q_0 hb=>q_0.kept hb
 | 29,_=>exact fun _ _ _ h _=>h
 | k+30,hk=>omega
def cd4b (s:CES)(x:CE)(am:Option Addr)(cm:Nat)(ao:Option Addr)(cc:Nat)(L R G B:Nat):RSpec where
 m:=55
 n:=59
 slots:=[68,69,70,71,72,73,74,75,76,77,78,79,80,81,82,83,84,85,86,87,88,89,90,91,92,93,94,95,96,97,98,99,100,101,102,103,104,105,106,107,108,109,110,111,112,113,114,115,116,117,118,119,120,121,100054,100055,100056,100057,100058]
 kills:=[[],[],[],[],[],[],[],[],[],[],[],[],[],[],[],[],[],[],[],[],[],[],[],[],[],[],[],[],[],[],[],[],[],[],[],[],[],[],[],[],[],[],[],[],[],[],[],[],[],[],[],[],[],[],[],[],[54],[],[]]
 pres:=[[],[],[],[],[],[],[],[],[],[],[],[],[],[],[],[],[],[],[],[],[],[],[],[],[],[],[],[],[],[],[],[],[],[],[],[],[],[],[],[],[],[],[],[],[],[],[],[],[],[],[],[],[],[],[],[],[],[],[]]
 fact:=fun k v w=>match k with
  | 0=>v=.pointer (some ⟨G,0,none⟩)
  | 1=>v=.int .i64 x.ser
  | 2=>∃ a1 n1 c1 k1 m1 e1,v=.agg #[.int .i64 (numI x.ser).cls,.int .i64 (numI x.ser).tag,.bool (numI x.ser).cons,.slice a1 n1 c1,.slice k1 m1 e1]∧ItZ L R 6 w (numI x.ser) a1 n1 c1 k1 m1 e1∧L≤G∧G+1<R
  | 3=>v=.pointer (some ⟨G,1,none⟩)
  | 4=>v=.agg #[.slice s.a1 s.n1 s.c1]
  | 5=>∃ a2 n2 c2 k2 m2 e2,v=.agg #[.int .i64 (namI x.iss).cls,.int .i64 (namI x.iss).tag,.bool (namI x.iss).cons,.slice a2 n2 c2,.slice k2 m2 e2]∧ItZ L R 6 w (namI x.iss) a2 n2 c2 k2 m2 e2∧L≤G∧G+1<R
  | 6=>v=.pointer (some ⟨G,2,none⟩)
  | 7=>v=.agg #[.slice s.a2 s.n2 s.c2]
  | 8=>∃ a3 n3 c3 k3 m3 e3,v=.agg #[.int .i64 (namI x.sub).cls,.int .i64 (namI x.sub).tag,.bool (namI x.sub).cons,.slice a3 n3 c3,.slice k3 m3 e3]∧ItZ L R 6 w (namI x.sub) a3 n3 c3 k3 m3 e3∧L≤G∧G+1<R
  | 9=>v=.pointer (some ⟨G,3,none⟩)
  | 10=>v=.int .i64 x.frm
  | 11=>∃ a4 n4 c4 k4 m4 e4,v=.agg #[.int .i64 (numI x.frm).cls,.int .i64 (numI x.frm).tag,.bool (numI x.frm).cons,.slice a4 n4 c4,.slice k4 m4 e4]∧ItZ L R 6 w (numI x.frm) a4 n4 c4 k4 m4 e4∧L≤G∧G+1<R
  | 12=>v=.pointer (some ⟨G,4,none⟩)
  | 13=>v=.int .i64 x.til
  | 14=>∃ a5 n5 c5 k5 m5 e5,v=.agg #[.int .i64 (numI x.til).cls,.int .i64 (numI x.til).tag,.bool (numI x.til).cons,.slice a5 n5 c5,.slice k5 m5 e5]∧ItZ L R 6 w (numI x.til) a5 n5 c5 k5 m5 e5∧L≤G∧G+1<R
  | 15=>v=.pointer (some ⟨G,5,none⟩)
  | 16=>v=.agg #[.int .i64 x.key.1,.int .u64 x.key.2.1,.int .i64 x.key.2.2]
  | 17=>∃ a6 n6 c6 k6 m6 e6,v=.agg #[.int .i64 (kyI x.key).cls,.int .i64 (kyI x.key).tag,.bool (kyI x.key).cons,.slice a6 n6 c6,.slice k6 m6 e6]∧ItZ L R 6 w (kyI x.key) a6 n6 c6 k6 m6 e6∧L≤G∧G+1<R
  | 18=>v=.pointer (some ⟨G,8,none⟩)
  | 19=>v=.bool x.ca
  | 20=>∃ a7 n7 c7 k7 m7 e7,v=.agg #[.int .i64 (flgI x.ca).cls,.int .i64 (flgI x.ca).tag,.bool (flgI x.ca).cons,.slice a7 n7 c7,.slice k7 m7 e7]∧ItZ L R 6 w (flgI x.ca) a7 n7 c7 k7 m7 e7∧L≤G∧G+1<R
  | 21=>v=.pointer (some ⟨G,9,none⟩)
  | 22=>v=.int .i64 x.room
  | 23=>∃ a8 n8 c8 k8 m8 e8,v=.agg #[.int .i64 (numI x.room).cls,.int .i64 (numI x.room).tag,.bool (numI x.room).cons,.slice a8 n8 c8,.slice k8 m8 e8]∧ItZ L R 6 w (numI x.room) a8 n8 c8 k8 m8 e8∧L≤G∧G+1<R
  | 24=>v=.pointer (some ⟨G,10,none⟩)
  | 25=>v=.int .i64 x.uses
  | 26=>∃ a9 n9 c9 k9 m9 e9,v=.agg #[.int .i64 (numI x.uses).cls,.int .i64 (numI x.uses).tag,.bool (numI x.uses).cons,.slice a9 n9 c9,.slice k9 m9 e9]∧ItZ L R 6 w (numI x.uses) a9 n9 c9 k9 m9 e9∧L≤G∧G+1<R
  | 27=>v=.pointer (some ⟨G,11,none⟩)
  | 28=>v=.slice s.a3 s.n3 s.c3
  | 29=>∃ a10 n10 c10 k10 m10 e10,v=.agg #[.int .i64 (lstI (x.nms.map gneI)).cls,.int .i64 (lstI (x.nms.map gneI)).tag,.bool (lstI (x.nms.map gneI)).cons,.slice a10 n10 c10,.slice k10 m10 e10]∧ItZ L R 6 w (lstI (x.nms.map gneI)) a10 n10 c10 k10 m10 e10∧L≤G∧G+1<R
  | 30=>v=.pointer (some ⟨G,12,none⟩)
  | 31=>v=.slice s.a4 s.n4 s.c4
  | 32=>∃ a11 n11 c11 k11 m11 e11,v=.agg #[.int .i64 (lstI (x.per.map gneI)).cls,.int .i64 (lstI (x.per.map gneI)).tag,.bool (lstI (x.per.map gneI)).cons,.slice a11 n11 c11,.slice k11 m11 e11]∧ItZ L R 6 w (lstI (x.per.map gneI)) a11 n11 c11 k11 m11 e11∧L≤G∧G+1<R
  | 33=>v=.pointer (some ⟨G,13,none⟩)
  | 34=>v=.slice s.a5 s.n5 s.c5
  | 35=>∃ a12 n12 c12 k12 m12 e12,v=.agg #[.int .i64 (lstI (x.den.map gneI)).cls,.int .i64 (lstI (x.den.map gneI)).tag,.bool (lstI (x.den.map gneI)).cons,.slice a12 n12 c12,.slice k12 m12 e12]∧ItZ L R 6 w (lstI (x.den.map gneI)) a12 n12 c12 k12 m12 e12∧L≤G∧G+1<R
  | 36=>v=.pointer (some ⟨G,14,none⟩)
  | 37=>v=.slice s.a6 s.n6 s.c6
  | 38=>∃ a13 n13 c13 k13 m13 e13,v=.agg #[.int .i64 (lstI (x.pol.map numI)).cls,.int .i64 (lstI (x.pol.map numI)).tag,.bool (lstI (x.pol.map numI)).cons,.slice a13 n13 c13,.slice k13 m13 e13]∧ItZ L R 6 w (lstI (x.pol.map numI)) a13 n13 c13 k13 m13 e13∧L≤G∧G+1<R
  | 39=>v=.slice am s.n7 cm
  | 40=>∃ a14 n14 c14 k14 m14 e14,v=.agg #[.int .i64 (lstI (x.maps.map mapI)).cls,.int .i64 (lstI (x.maps.map mapI)).tag,.bool (lstI (x.maps.map mapI)).cons,.slice a14 n14 c14,.slice k14 m14 e14]∧ItZ L R 6 w (lstI (x.maps.map mapI)) a14 n14 c14 k14 m14 e14∧L≤G∧G+1<R
  | 41=>v=.pointer (some ⟨G,16,none⟩)
  | 42=>v=.int .i64 x.need
  | 43=>∃ a15 n15 c15 k15 m15 e15,v=.agg #[.int .i64 (numI x.need).cls,.int .i64 (numI x.need).tag,.bool (numI x.need).cons,.slice a15 n15 c15,.slice k15 m15 e15]∧ItZ L R 6 w (numI x.need) a15 n15 c15 k15 m15 e15∧L≤G∧G+1<R
  | 44=>v=.pointer (some ⟨G,17,none⟩)
  | 45=>v=.int .i64 x.nomap
  | 46=>∃ a16 n16 c16 k16 m16 e16,v=.agg #[.int .i64 (numI x.nomap).cls,.int .i64 (numI x.nomap).tag,.bool (numI x.nomap).cons,.slice a16 n16 c16,.slice k16 m16 e16]∧ItZ L R 6 w (numI x.nomap) a16 n16 c16 k16 m16 e16∧L≤G∧G+1<R
  | 47=>v=.pointer (some ⟨G,18,none⟩)
  | 48=>v=.int .i64 x.noany
  | 49=>∃ a17 n17 c17 k17 m17 e17,v=.agg #[.int .i64 (numI x.noany).cls,.int .i64 (numI x.noany).tag,.bool (numI x.noany).cons,.slice a17 n17 c17,.slice k17 m17 e17]∧ItZ L R 6 w (numI x.noany) a17 n17 c17 k17 m17 e17∧L≤G∧G+1<R
  | 50=>v=.slice ao s.n8 cc
  | 51=>∃ a18 n18 c18 k18 m18 e18,v=.agg #[.int .i64 (lstI (x.ext.map exI)).cls,.int .i64 (lstI (x.ext.map exI)).tag,.bool (lstI (x.ext.map exI)).cons,.slice a18 n18 c18,.slice k18 m18 e18]∧ItZ L R 6 w (lstI (x.ext.map exI)) a18 n18 c18 k18 m18 e18∧L≤G∧G+1<R
  | 52=>∃ gr,v=.slice (some ⟨gr,0,none⟩) 18 18∧KidZ L R w gr 7 (ceK x)∧L≤G∧G+1<R
  | 53=>∃ a0 n0 c0 k0 m0 e0,v=.agg #[.int .i64 (boxI 1 (ceK x)).cls,.int .i64 (boxI 1 (ceK x)).tag,.bool (boxI 1 (ceK x)).cons,.slice a0 n0 c0,.slice k0 m0 e0]∧ItZ L R 7 w (boxI 1 (ceK x)) a0 n0 c0 k0 m0 e0∧L≤G∧G+1<R
  | 54=>∃ a0 n0 c0 k0 m0 e0,w.heap[(G+1)]? = some (.cells #[.int .i64 (boxI 1 (ceK x)).cls,.int .i64 (boxI 1 (ceK x)).tag,.bool (boxI 1 (ceK x)).cons,.slice a0 n0 c0,.slice k0 m0 e0] 75 (0,0))∧ItZ L R 7 w (boxI 1 (ceK x)) a0 n0 c0 k0 m0 e0∧L≤G∧G+1<R
  | 55=>w.heap[G]? = some (.cells #[.int .i64 x.ser,.slice s.a1 s.n1 s.c1,.slice s.a2 s.n2 s.c2,.int .i64 x.frm,.int .i64 x.til,.int .i64 x.key.1,.int .u64 x.key.2.1,.int .i64 x.key.2.2,.bool x.ca,.int .i64 x.room,.int .i64 x.uses,.slice s.a3 s.n3 s.c3,.slice s.a4 s.n4 s.c4,.slice s.a5 s.n5 s.c5,.slice s.a6 s.n6 s.c6,.slice s.a7 s.n7 s.c7,.int .i64 x.need,.int .i64 x.nomap,.int .i64 x.noany,.slice s.a8 s.n8 s.c8,.slice s.a9 s.n9 s.c9] 46 (0,0))
  | 56=>w.heap[(G+1)]? = some (.cells #[.int .i64 0,.int .i64 0,.bool false,.slice none 0 0,.slice none 0 0] 75 (0,0))
  | 57=>ListZ L R 3 w am s.n7 (x.maps.map mapI)∧L≤G∧G+1<R
  | _=>ListZ L R 3 w ao s.n8 (x.ext.map exI)∧L≤G∧G+1<R
theorem cd4b_stb (s:CES)(x:CE)(am:Option Addr)(cm:Nat)(ao:Option Addr)(cc:Nat)(L R G B:Nat)(k:Nat)(hk:k<59):StB ((cd4b s x am cm ao cc L R G (B)).fact k):=by
 match k,hk with
 | 0,_=>exact fun _ _ _ h _=>h
 | 1,_=>exact fun _ _ _ h _=>h
 | 2,_=>exact fun _ _ _ ⟨a1,n1,c1,k1,m1,e1,hv,q_0,q_1⟩ hb=>⟨a1,n1,c1,k1,m1,e1,hv,q_0.kept hb,q_1⟩
 | 3,_=>exact fun _ _ _ h _=>h
 | 4,_=>exact fun _ _ _ h _=>h
 | 5,_=>exact fun _ _ _ ⟨a2,n2,c2,k2,m2,e2,hv,q_0,q_1⟩ hb=>⟨a2,n2,c2,k2,m2,e2,hv,q_0.kept hb,q_1⟩
 | 6,_=>exact fun _ _ _ h _=>h
 | 7,_=>exact fun _ _ _ h _=>h
 | 8,_=>exact fun _ _ _ ⟨a3,n3,c3,k3,m3,e3,hv,q_0,q_1⟩ hb=>⟨a3,n3,c3,k3,m3,e3,hv,q_0.kept hb,q_1⟩
 | 9,_=>exact fun _ _ _ h _=>h
 | 10,_=>exact fun _ _ _ h _=>h
 | 11,_=>exact fun _ _ _ ⟨a4,n4,c4,k4,m4,e4,hv,q_0,q_1⟩ hb=>⟨a4,n4,c4,k4,m4,e4,hv,q_0.kept hb,q_1⟩
 | 12,_=>exact fun _ _ _ h _=>h
 | 13,_=>exact fun _ _ _ h _=>h
 | 14,_=>exact fun _ _ _ ⟨a5,n5,c5,k5,m5,e5,hv,q_0,q_1⟩ hb=>⟨a5,n5,c5,k5,m5,e5,hv,q_0.kept hb,q_1⟩
 | 15,_=>exact fun _ _ _ h _=>h
 | 16,_=>exact fun _ _ _ h _=>h
 | 17,_=>exact fun _ _ _ ⟨a6,n6,c6,k6,m6,e6,hv,q_0,q_1⟩ hb=>⟨a6,n6,c6,k6,m6,e6,hv,q_0.kept hb,q_1⟩
 | 18,_=>exact fun _ _ _ h _=>h
 | 19,_=>exact fun _ _ _ h _=>h
 | 20,_=>exact fun _ _ _ ⟨a7,n7,c7,k7,m7,e7,hv,q_0,q_1⟩ hb=>⟨a7,n7,c7,k7,m7,e7,hv,q_0.kept hb,q_1⟩
 | 21,_=>exact fun _ _ _ h _=>h
 | 22,_=>exact fun _ _ _ h _=>h
 | 23,_=>exact fun _ _ _ ⟨a8,n8,c8,k8,m8,e8,hv,q_0,q_1⟩ hb=>⟨a8,n8,c8,k8,m8,e8,hv,q_0.kept hb,q_1⟩
 | 24,_=>exact fun _ _ _ h _=>h
 | 25,_=>exact fun _ _ _ h _=>h
 | 26,_=>exact fun _ _ _ ⟨a9,n9,c9,k9,m9,e9,hv,q_0,q_1⟩ hb=>⟨a9,n9,c9,k9,m9,e9,hv,q_0.kept hb,q_1⟩
 | 27,_=>exact fun _ _ _ h _=>h
 | 28,_=>exact fun _ _ _ h _=>h
 | 29,_=>exact fun _ _ _ ⟨a10,n10,c10,k10,m10,e10,hv,q_0,q_1⟩ hb=>⟨a10,n10,c10,k10,m10,e10,hv,q_0.kept hb,q_1⟩
 | 30,_=>exact fun _ _ _ h _=>h
 | 31,_=>exact fun _ _ _ h _=>h
 | 32,_=>exact fun _ _ _ ⟨a11,n11,c11,k11,m11,e11,hv,q_0,q_1⟩ hb=>⟨a11,n11,c11,k11,m11,e11,hv,q_0.kept hb,q_1⟩
 | 33,_=>exact fun _ _ _ h _=>h
 | 34,_=>exact fun _ _ _ h _=>h
 | 35,_=>exact fun _ _ _ ⟨a12,n12,c12,k12,m12,e12,hv,q_0,q_1⟩ hb=>⟨a12,n12,c12,k12,m12,e12,hv,q_0.kept hb,q_1⟩
 | 36,_=>exact fun _ _ _ h _=>h
 | 37,_=>exact fun _ _ _ h _=>h
 | 38,_=>exact fun _ _ _ ⟨a13,n13,c13,k13,m13,e13,hv,q_0,q_1⟩ hb=>⟨a13,n13,c13,k13,m13,e13,hv,q_0.kept hb,q_1⟩
 | 39,_=>exact fun _ _ _ h _=>h
 | 40,_=>exact fun _ _ _ ⟨a14,n14,c14,k14,m14,e14,hv,q_0,q_1⟩ hb=>⟨a14,n14,c14,k14,m14,e14,hv,q_0.kept hb,q_1⟩
 | 41,_=>exact fun _ _ _ h _=>h
 | 42,_=>exact fun _ _ _ h _=>h
 | 43,_=>exact fun _ _ _ ⟨a15,n15,c15,k15,m15,e15,hv,q_0,q_1⟩ hb=>⟨a15,n15,c15,k15,m15,e15,hv,q_0.kept hb,q_1⟩
 | 44,_=>exact fun _ _ _ h _=>h
 | 45,_=>exact fun _ _ _ h _=>h
 | 46,_=>exact fun _ _ _ ⟨a16,n16,c16,k16,m16,e16,hv,q_0,q_1⟩ hb=>⟨a16,n16,c16,k16,m16,e16,hv,q_0.kept hb,q_1⟩
 | 47,_=>exact fun _ _ _ h _=>h
 | 48,_=>exact fun _ _ _ h _=>h
 | 49,_=>exact fun _ _ _ ⟨a17,n17,c17,k17,m17,e17,hv,q_0,q_1⟩ hb=>⟨a17,n17,c17,k17,m17,e17,hv,q_0.kept hb,q_1⟩
 | 50,_=>exact fun _ _ _ h _=>h
 | 51,_=>exact fun _ _ _ ⟨a18,n18,c18,k18,m18,e18,hv,q_0,q_1⟩ hb=>⟨a18,n18,c18,k18,m18,e18,hv,q_0.kept hb,q_1⟩
 | 52,_=>exact fun _ _ _ ⟨gr,hv,q_0,q_1⟩ hb=>⟨gr,hv,q_0.kept hb,q_1⟩
 | 53,_=>exact fun _ _ _ ⟨a0,n0,c0,k0,m0,e0,hv,q_0,q_1⟩ hb=>⟨a0,n0,c0,k0,m0,e0,hv,q_0.kept hb,q_1⟩
 | 54,_=>exact fun _ _ _ ⟨a0,n0,c0,k0,m0,e0,q_0,q_1,q_2⟩ hb=>⟨a0,n0,c0,k0,m0,e0,below_kept q_0 hb,q_1.kept hb,q_2⟩
 | 55,_=>exact fun _ _ _ q_0 hb=>below_kept q_0 hb
 | 56,_=>exact fun _ _ _ q_0 hb=>below_kept q_0 hb
 | 57,_=>exact fun _ _ _ ⟨q_0,q_1⟩ hb=>⟨q_0.kept hb,q_1⟩
 | 58,_=>exact fun _ _ _ ⟨q_0,q_1⟩ hb=>⟨q_0.kept hb,q_1⟩
 | k+59,hk=>omega
theorem cd4b_st54 (s:CES)(x:CE)(am:Option Addr)(cm:Nat)(ao:Option Addr)(cc:Nat)(L R G B:Nat){W W2:World}{cs:Array Value}{fr:Nat × Nat}(hg:W.heap[(G+1)]? = some (.cells cs 75 fr))(ht:Touch ((G+1)) ((G+1)+1) W W2)(k:Nat)(hk:k<59)(hne:k≠54)(hkill:54∉(cd4b s x am cm ao cc L R G (B)).kill k)(v:Value)(hfact:(cd4b s x am cm ao cc L R G (B)).fact k v W):(cd4b s x am cm ao cc L R G (B)).fact k v W2:=by
 match k,hk,hne,hkill,hfact with
 | 0,_,_,_,hq=>exact hq
 | 1,_,_,_,hq=>exact hq
 | 2,_,_,_,⟨a1,n1,c1,k1,m1,e1,hv,q_0,q_1⟩=>exact ⟨a1,n1,c1,k1,m1,e1,hv,q_0.touched ht (by omega),q_1⟩
 | 3,_,_,_,hq=>exact hq
 | 4,_,_,_,hq=>exact hq
 | 5,_,_,_,⟨a2,n2,c2,k2,m2,e2,hv,q_0,q_1⟩=>exact ⟨a2,n2,c2,k2,m2,e2,hv,q_0.touched ht (by omega),q_1⟩
 | 6,_,_,_,hq=>exact hq
 | 7,_,_,_,hq=>exact hq
 | 8,_,_,_,⟨a3,n3,c3,k3,m3,e3,hv,q_0,q_1⟩=>exact ⟨a3,n3,c3,k3,m3,e3,hv,q_0.touched ht (by omega),q_1⟩
 | 9,_,_,_,hq=>exact hq
 | 10,_,_,_,hq=>exact hq
 | 11,_,_,_,⟨a4,n4,c4,k4,m4,e4,hv,q_0,q_1⟩=>exact ⟨a4,n4,c4,k4,m4,e4,hv,q_0.touched ht (by omega),q_1⟩
 | 12,_,_,_,hq=>exact hq
 | 13,_,_,_,hq=>exact hq
 | 14,_,_,_,⟨a5,n5,c5,k5,m5,e5,hv,q_0,q_1⟩=>exact ⟨a5,n5,c5,k5,m5,e5,hv,q_0.touched ht (by omega),q_1⟩
 | 15,_,_,_,hq=>exact hq
 | 16,_,_,_,hq=>exact hq
 | 17,_,_,_,⟨a6,n6,c6,k6,m6,e6,hv,q_0,q_1⟩=>exact ⟨a6,n6,c6,k6,m6,e6,hv,q_0.touched ht (by omega),q_1⟩
 | 18,_,_,_,hq=>exact hq
 | 19,_,_,_,hq=>exact hq
 | 20,_,_,_,⟨a7,n7,c7,k7,m7,e7,hv,q_0,q_1⟩=>exact ⟨a7,n7,c7,k7,m7,e7,hv,q_0.touched ht (by omega),q_1⟩
 | 21,_,_,_,hq=>exact hq
 | 22,_,_,_,hq=>exact hq
 | 23,_,_,_,⟨a8,n8,c8,k8,m8,e8,hv,q_0,q_1⟩=>exact ⟨a8,n8,c8,k8,m8,e8,hv,q_0.touched ht (by omega),q_1⟩
 | 24,_,_,_,hq=>exact hq
 | 25,_,_,_,hq=>exact hq
 | 26,_,_,_,⟨a9,n9,c9,k9,m9,e9,hv,q_0,q_1⟩=>exact ⟨a9,n9,c9,k9,m9,e9,hv,q_0.touched ht (by omega),q_1⟩
 | 27,_,_,_,hq=>exact hq
 | 28,_,_,_,hq=>exact hq
 | 29,_,_,_,⟨a10,n10,c10,k10,m10,e10,hv,q_0,q_1⟩=>exact ⟨a10,n10,c10,k10,m10,e10,hv,q_0.touched ht (by omega),q_1⟩
 | 30,_,_,_,hq=>exact hq
 | 31,_,_,_,hq=>exact hq
 | 32,_,_,_,⟨a11,n11,c11,k11,m11,e11,hv,q_0,q_1⟩=>exact ⟨a11,n11,c11,k11,m11,e11,hv,q_0.touched ht (by omega),q_1⟩
 | 33,_,_,_,hq=>exact hq
 | 34,_,_,_,hq=>exact hq
 | 35,_,_,_,⟨a12,n12,c12,k12,m12,e12,hv,q_0,q_1⟩=>exact ⟨a12,n12,c12,k12,m12,e12,hv,q_0.touched ht (by omega),q_1⟩
 | 36,_,_,_,hq=>exact hq
 | 37,_,_,_,hq=>exact hq
 | 38,_,_,_,⟨a13,n13,c13,k13,m13,e13,hv,q_0,q_1⟩=>exact ⟨a13,n13,c13,k13,m13,e13,hv,q_0.touched ht (by omega),q_1⟩
 | 39,_,_,_,hq=>exact hq
 | 40,_,_,_,⟨a14,n14,c14,k14,m14,e14,hv,q_0,q_1⟩=>exact ⟨a14,n14,c14,k14,m14,e14,hv,q_0.touched ht (by omega),q_1⟩
 | 41,_,_,_,hq=>exact hq
 | 42,_,_,_,hq=>exact hq
 | 43,_,_,_,⟨a15,n15,c15,k15,m15,e15,hv,q_0,q_1⟩=>exact ⟨a15,n15,c15,k15,m15,e15,hv,q_0.touched ht (by omega),q_1⟩
 | 44,_,_,_,hq=>exact hq
 | 45,_,_,_,hq=>exact hq
 | 46,_,_,_,⟨a16,n16,c16,k16,m16,e16,hv,q_0,q_1⟩=>exact ⟨a16,n16,c16,k16,m16,e16,hv,q_0.touched ht (by omega),q_1⟩
 | 47,_,_,_,hq=>exact hq
 | 48,_,_,_,hq=>exact hq
 | 49,_,_,_,⟨a17,n17,c17,k17,m17,e17,hv,q_0,q_1⟩=>exact ⟨a17,n17,c17,k17,m17,e17,hv,q_0.touched ht (by omega),q_1⟩
 | 50,_,_,_,hq=>exact hq
 | 51,_,_,_,⟨a18,n18,c18,k18,m18,e18,hv,q_0,q_1⟩=>exact ⟨a18,n18,c18,k18,m18,e18,hv,q_0.touched ht (by omega),q_1⟩
 | 52,_,_,_,⟨gr,hv,q_0,q_1⟩=>exact ⟨gr,hv,q_0.touched ht (by omega),q_1⟩
 | 53,_,_,_,⟨a0,n0,c0,k0,m0,e0,hv,q_0,q_1⟩=>exact ⟨a0,n0,c0,k0,m0,e0,hv,q_0.touched ht (by omega),q_1⟩
 | 54,_,hne,_,_=>exact absurd rfl hne
 | 55,_,_,_,q_0=>exact box_box q_0 hg (by decide) ht
 | 56,_,_,hkill,_=>exact absurd (List.Mem.head _) hkill
 | 57,_,_,_,⟨q_0,q_1⟩=>exact ⟨q_0.touched ht (by omega),q_1⟩
 | 58,_,_,_,⟨q_0,q_1⟩=>exact ⟨q_0.touched ht (by omega),q_1⟩
 | k+59,hk,_,_,_=>omega
theorem MapS_next (xs:List (Int × Int))(k:Nat)(h:k<xs.length):(xs.take (k+1)).map mapI=(xs.take k).map mapI++[mapI (xs.getD k (0,0))]:=by
 rw [List.take_add_one,List.map_append]
 simp [h]
theorem ExiS_next (xs:List XP)(k:Nat)(h:k<xs.length):(xs.take (k+1)).map exI=(xs.take k).map exI++[exI (xs.getD k default)]:=by
 rw [List.take_add_one,List.map_append]
 simp [h]
theorem l9Body_R (s:CES)(x:CE)(w:World)(h:CER w s x)(hw:CeS s x) :
  Calls Tryz.prog 37 #[.agg #[.int .i64 x.ser,.slice s.a1 s.n1 s.c1,.slice s.a2 s.n2 s.c2,.int .i64 x.frm,.int .i64 x.til,.int .i64 x.key.1,.int .u64 x.key.2.1,.int .i64 x.key.2.2,.bool x.ca,.int .i64 x.room,.int .i64 x.uses,.slice s.a3 s.n3 s.c3,.slice s.a4 s.n4 s.c4,.slice s.a5 s.n5 s.c5,.slice s.a6 s.n6 s.c6,.slice s.a7 s.n7 s.c7,.int .i64 x.need,.int .i64 x.nomap,.int .i64 x.noany,.slice s.a8 s.n8 s.c8,.slice s.a9 s.n9 s.c9]] w fun e w'=>ItR 0 w.heap.size 7 (boxI 1 (ceK x)) e w'∧Below w.heap.size w w':=by
 obtain ⟨i0,hi,hz0,hz1,hz2⟩:=info_parts Tryz.infoIt
 obtain ⟨w1,hw1⟩:∃ w1,w1=(w.alloc (.cells #[.int .i64 x.ser,.slice s.a1 s.n1 s.c1,.slice s.a2 s.n2 s.c2,.int .i64 x.frm,.int .i64 x.til,.int .i64 x.key.1,.int .u64 x.key.2.1,.int .i64 x.key.2.2,.bool x.ca,.int .i64 x.room,.int .i64 x.uses,.slice s.a3 s.n3 s.c3,.slice s.a4 s.n4 s.c4,.slice s.a5 s.n5 s.c5,.slice s.a6 s.n6 s.c6,.slice s.a7 s.n7 s.c7,.int .i64 x.need,.int .i64 x.nomap,.int .i64 x.noany,.slice s.a8 s.n8 s.c8,.slice s.a9 s.n9 s.c9] 46)).alloc (.cells #[.int .i64 0,.int .i64 0,.bool false,.slice none 0 0,.slice none 0 0] 75):=⟨_,rfl⟩
 have hbx:Below w.heap.size w w1:=by rw [hw1]; exact ((Below.refl _ _).alloc (Nat.le_refl _) _).alloc (by simp) _
 have HB1:Hid (_∧_):=two_blocks w (.cells #[.int .i64 x.ser,.slice s.a1 s.n1 s.c1,.slice s.a2 s.n2 s.c2,.int .i64 x.frm,.int .i64 x.til,.int .i64 x.key.1,.int .u64 x.key.2.1,.int .i64 x.key.2.2,.bool x.ca,.int .i64 x.room,.int .i64 x.uses,.slice s.a3 s.n3 s.c3,.slice s.a4 s.n4 s.c4,.slice s.a5 s.n5 s.c5,.slice s.a6 s.n6 s.c6,.slice s.a7 s.n7 s.c7,.int .i64 x.need,.int .i64 x.nomap,.int .i64 x.noany,.slice s.a8 s.n8 s.c8,.slice s.a9 s.n9 s.c9] 46) (.cells #[.int .i64 0,.int .i64 0,.bool false,.slice none 0 0,.slice none 0 0] 75)
 rw [← hw1] at HB1
 have hszl:w.heap.size+1<w1.heap.size:=by rw [hw1]; simp
 have HR:Hid (CER w s x):=h
 have H7:Hid (Pms w1 s.a7 s.n7 x.maps):=h.r7.kept hbx
 have HL7:Hid (x.maps.length=s.n7):=h.r7.len
 have HL8:Hid (x.ext.length=s.n8):=h.r8.len
 have HCS:Hid (CeS s x):=hw
 have hn7:=hw.l7
 have hn8:=hw.l8
 have HW:Hid (_=_):=hw1
 have hbE:Below w1.heap.size w1 (w1.alloc (.cells #[] 75)):=(Below.refl _ _).alloc (Nat.le_refl _) _
 have HO0:Hid (OwnItZ 2 0 w1.heap.size (w1.alloc (.cells #[] 75)) (some ⟨w1.heap.size,0,none⟩) 0 0 ((x.maps.take 0).map mapI)):=ownItZ_empty 2 0 w1
 have x15:w1.cell? ⟨w.heap.size,15,none⟩=some (.slice s.a7 s.n7 s.c7):=qk HB1.out.1 rfl
 clear h hw1 hw
 go_enter Tryz.func37,Tryz.ntmps37
 go_upto_region 1 with fail
 rw [← HW.out]
 clear HW
 go_wp2
 go_loopw [3,4] (fun o i wr=>∃ (kq:Nat) (ao:Option Addr) (cc:Nat),kq≤s.n7∧i=.int .i64 kq∧o=.slice ao kq cc∧Hid (OwnItZ 2 0 w1.heap.size wr ao kq cc ((x.maps.take kq).map mapI))∧Below w1.heap.size w1 wr) (fun _ i _=>s.n7 - (intOf i).toNat)
 case atStart=>exact ⟨0,_,0,Nat.zero_le _,rfl,rfl,HO0,hbE⟩
 case round =>
  obtain ⟨kq,ao,cc,hk,rfl,rfl,HO,hbr⟩:=hrel
  have hws:=hbr.size
  clear x15
  have HBR:Hid (wr.heap[w.heap.size]? = some (.cells #[.int .i64 x.ser,.slice s.a1 s.n1 s.c1,.slice s.a2 s.n2 s.c2,.int .i64 x.frm,.int .i64 x.til,.int .i64 x.key.1,.int .u64 x.key.2.1,.int .i64 x.key.2.2,.bool x.ca,.int .i64 x.room,.int .i64 x.uses,.slice s.a3 s.n3 s.c3,.slice s.a4 s.n4 s.c4,.slice s.a5 s.n5 s.c5,.slice s.a6 s.n6 s.c6,.slice s.a7 s.n7 s.c7,.int .i64 x.need,.int .i64 x.nomap,.int .i64 x.noany,.slice s.a8 s.n8 s.c8,.slice s.a9 s.n9 s.c9] 46 (0,0))):=below_kept HB1.out.1 hbr
  have x15:wr.cell? ⟨w.heap.size,15,none⟩=some (.slice s.a7 s.n7 s.c7):=qk HBR.out rfl
  by_cases hkn:kq<s.n7
  ·obtain ⟨b0,off,hA,hlb,e0,e1⟩:=H7.out.get kq hkn
   have HA:Hid (s.a7=some ⟨b0,off,none⟩):=hA
   obtain ⟨y,hy⟩:∃ y,y=x.maps.getD kq (0,0):=⟨_,rfl⟩
   rw [← hy] at e0 e1
   obtain ⟨es0,hes⟩:∃ es0,es0=(x.maps.take kq).map mapI:=⟨_,rfl⟩
   have HXK:Hid ((x.maps.take (kq+1)).map mapI=es0++[mapI y]):=by show _=_; rw [hes,hy]; exact MapS_next x.maps kq (by rw [HL7.out]; exact hkn)
   have HOR:Hid (OwnItZ 2 0 w1.heap.size wr ao kq cc es0):=by show OwnItZ _ _ _ _ _ _ _ _; rw [hes]; exact HO.out
   have HOWN:Hid (∀ b,(Value.slice ao kq cc).ownBlock=some b→0≤b∧b<wr.heap.size):=fun b hb=>by obtain ⟨vs0,hv0⟩:=HO.out.row; exact ⟨Nat.zero_le _,(hv0.lt b hb).2⟩
   have HNG:Hid (∀ b,(Value.slice ao kq cc).ownBlock=some b→b≠w.heap.size):=fun b hb=>by have:=HO.out.2 b hb; omega
   have HCE0:Hid (∀ W,Below w1.heap.size wr W→W.cell? ⟨b0,off+kq * 2,none⟩=some (.int .i64 y.1)):=fun W hW=>((hbr.trans hW).cell (p:=⟨b0,off+kq * 2,none⟩) hlb).trans e0
   have HCE1:Hid (∀ W,Below w1.heap.size wr W→W.cell? ⟨b0,off+kq * 2+1,none⟩=some (.int .i64 y.2)):=fun W hW=>((hbr.trans hW).cell (p:=⟨b0,off+kq * 2+1,none⟩) hlb).trans e1
   have HBB:w1.heap.size≤wr.heap.size:=hws
   have HQR:w1.heap.size≤wr.heap.size:=hws
   have hkni:(kq:Int)<(s.n7:Int):=by omega
   clear hy e0 e1 hes HO hA
   go_upto_region 5 with fail
   clear x15
   obtain ⟨wq,hwq⟩:∃ wq,wq=wr:=⟨_,rfl⟩
   rw [← hwq] at HBR HOR HOWN HCE0 HCE1 HBB HQR hbr hws ⊢
   clear hwq
   have stb:=cd4m_stb s x y b0 off ao kq cc es0 wq.heap.size w1.heap.size w.heap.size (w1.heap.size)
   refine wp_region_ri (cd4m s x y b0 off ao kq cc es0 wq.heap.size w1.heap.size w.heap.size (w1.heap.size)) [3,15,16,17,18,19,20,21,22,23,24,25,26,27,28,29,30,31,32,33] (w1.heap.size) (fun a0=>a0.tmps.size=122∧aT a0 1=.pointer (some ⟨w.heap.size,0,none⟩)∧aT a0 4=.int .i64 (kq:Int)) (by kernel_rfl) rfl (by kernel_rfl) rfl ⟨rfl,rfl,rfl⟩ stb ?_ ?_ ?_
   ·exact vt3 (m:=20) (HBR.out) (HOR.out) (rfl)
   ·rintro a0 ⟨hz,g1,g4⟩
    refine StepsRI.cons ?_ (StepsRI.cons ?_ (StepsRI.cons ?_ (StepsRI.cons ?_ (StepsRI.cons ?_ (StepsRI.cons ?_ (StepsRI.cons ?_ (StepsRI.cons ?_ (StepsRI.cons ?_ (StepsRI.cons ?_ (StepsRI.cons ?_ (StepsRI.cons ?_ (StepsRI.cons ?_ (StepsRI.cons ?_ (StepsRI.cons ?_ (StepsRI.cons ?_ (StepsRI.cons ?_ (StepsRI.cons ?_ (StepsRI.cons ?_ (StepsRI.cons ?_ (StepsRI.nil))))))))))))))))))))
    all_goals intro lQ b W hI hUN hED KQ hKQ
    ·have huA:lQ 19=false:=unT fun h=>by
      have h2:=hI.cl 18 (od rfl) (hI.cl 19 (od rfl) h 18 (List.Mem.head _)) 0 (List.Mem.head _)
      rw [show lQ 0=false from hUN] at h2
      cases h2
     have f:aT b 3=.slice ao kq cc:=hI.vot1 22 19 (od rfl) (od rfl) huA rfl
     exact opw_move 3 rfl (hKQ.out _ _ (hI.pu 0 15 hz hUN HBB stb (Below.refl _ _) f))
    ·exact opw_field 46 1 13 rfl _ ((hI.fr.same 1 (by decide)).trans g1) _ (by kernel_rfl) (hKQ.out _ _ (hI.pu 1 16 hz hUN HBB stb (Below.refl _ _) rfl))
    ·have f:=hI.ge 1 hED
     have hg:=(hI.vo 20)
     have hc:W.cell? ⟨w.heap.size,15,none⟩=some (.slice s.a7 s.n7 s.c7):=qk hg rfl
     exact opw_load1 43 16 rfl _ f _ (by simp [Instr.loadAt,go_sem,hc]) (hKQ.out _ _ (hI.pu 2 17 hz hUN HBB stb (Below.refl _ _) rfl))
    ·exact opw_move 4 rfl (hKQ.out _ _ (hI.pu 3 18 hz hUN HBB stb (Below.refl _ _) ((hI.fr.same 4 (by decide)).trans g4)))
    ·have f0:aT b 17=.slice (some ⟨b0,off,none⟩) s.n7 s.c7:=(hI.ge 2 hED).trans (by rw [HA.out])
     have f1:aT b 18=.int .i64 (kq:Int):=hI.ge 3 hED
     exact opw_indexY 43 17 18 rfl _ _ f0 f1 _ (indexPolMap b0 off s.n7 s.c7 kq W hkn) (hKQ.out _ _ (hI.pu 4 19 hz hUN HBB stb (Below.refl _ _) rfl))
    ·have f:aT b 19=.pointer (some ⟨b0,off+kq * 2,none⟩):=hI.ge 4 hED
     exact opw_field 115 19 0 rfl _ f (.pointer (some ⟨b0,off+kq * 2,none⟩)) (by kernel_rfl) (hKQ.out _ _ (hI.pu 5 20 hz hUN HBB stb (Below.refl _ _) rfl))
    ·have f:aT b 20=.pointer (some ⟨b0,off+kq * 2,none⟩):=hI.ge 5 hED
     have hc:W.cell? ⟨b0,off+kq * 2,none⟩=some (.int .i64 y.1):=HCE0.out W hI.bel
     exact opw_load1 2 20 rfl _ f _ (by simp [Instr.loadAt,go_sem,hc]) (hKQ.out _ _ (hI.pu 6 21 hz hUN HBB stb (Below.refl _ _) rfl))
    ·have f0:aT b 21=.int .i64 y.1:=hI.ge 6 hED
     refine opw_c1 81 21 Tryz.func81 f0 ?_
     refine (l9Num_R y.1 0 W).mono ?_
     rintro r W2 ⟨⟨a1,n1,c1,k1,m1,e1,rfl,hzI⟩,hb⟩
     exact ⟨_,rfl,hKQ.out _ _ (hI.pu 7 22 hz hUN HBB stb hb ⟨a1,n1,c1,k1,m1,e1,rfl,((hzI.mono hI.bel.size).le (by decide))⟩)⟩
    ·exact opw_field 46 1 13 rfl _ ((hI.fr.same 1 (by decide)).trans g1) _ (by kernel_rfl) (hKQ.out _ _ (hI.pu 8 23 hz hUN HBB stb (Below.refl _ _) rfl))
    ·have f:=hI.ge 8 hED
     have hg:=(hI.vo 20)
     have hc:W.cell? ⟨w.heap.size,15,none⟩=some (.slice s.a7 s.n7 s.c7):=qk hg rfl
     exact opw_load1 43 23 rfl _ f _ (by simp [Instr.loadAt,go_sem,hc]) (hKQ.out _ _ (hI.pu 9 24 hz hUN HBB stb (Below.refl _ _) rfl))
    ·exact opw_move 4 rfl (hKQ.out _ _ (hI.pu 10 25 hz hUN HBB stb (Below.refl _ _) ((hI.fr.same 4 (by decide)).trans g4)))
    ·have f0:aT b 24=.slice (some ⟨b0,off,none⟩) s.n7 s.c7:=(hI.ge 9 hED).trans (by rw [HA.out])
     have f1:aT b 25=.int .i64 (kq:Int):=hI.ge 10 hED
     exact opw_indexY 43 24 25 rfl _ _ f0 f1 _ (indexPolMap b0 off s.n7 s.c7 kq W hkn) (hKQ.out _ _ (hI.pu 11 26 hz hUN HBB stb (Below.refl _ _) rfl))
    ·have f:aT b 26=.pointer (some ⟨b0,off+kq * 2,none⟩):=hI.ge 11 hED
     exact opw_field 115 26 1 rfl _ f (.pointer (some ⟨b0,off+kq * 2+1,none⟩)) (by kernel_rfl) (hKQ.out _ _ (hI.pu 12 27 hz hUN HBB stb (Below.refl _ _) rfl))
    ·have f:aT b 27=.pointer (some ⟨b0,off+kq * 2+1,none⟩):=hI.ge 12 hED
     have hc:W.cell? ⟨b0,off+kq * 2+1,none⟩=some (.int .i64 y.2):=HCE1.out W hI.bel
     exact opw_load1 2 27 rfl _ f _ (by simp [Instr.loadAt,go_sem,hc]) (hKQ.out _ _ (hI.pu 13 28 hz hUN HBB stb (Below.refl _ _) rfl))
    ·have f0:aT b 28=.int .i64 y.2:=hI.ge 13 hED
     refine opw_c1 81 28 Tryz.func81 f0 ?_
     refine (l9Num_R y.2 0 W).mono ?_
     rintro r W2 ⟨⟨a2,n2,c2,k2,m2,e2,rfl,hzI⟩,hb⟩
     exact ⟨_,rfl,hKQ.out _ _ (hI.pu 14 29 hz hUN HBB stb hb ⟨a2,n2,c2,k2,m2,e2,rfl,((hzI.mono hI.bel.size).le (by decide))⟩)⟩
    ·obtain ⟨a1,n1,c1,k1,m1,e1,f1,o1⟩:=hI.ge 7 hED
     replace f1:aT b 22=_:=f1
     obtain ⟨a2,n2,c2,k2,m2,e2,f2,o2⟩:=hI.ge 14 hED
     replace f2:aT b 29=_:=f2
     refine opw_buildSliceT _ 2 _ rfl #[(0,.agg #[.int .i64 (numI y.1).cls,.int .i64 (numI y.1).tag,.bool (numI y.1).cons,.slice a1 n1 c1,.slice k1 m1 e1]),(1,.agg #[.int .i64 (numI y.2).cls,.int .i64 (numI y.2).tag,.bool (numI y.2).cons,.slice a2 n2 c2,.slice k2 m2 e2])] (by simp [ev,f1,f2]) (.slice (some ⟨W.heap.size,0,none⟩) 2 2) (W.alloc (.cells #[.int .i64 (numI y.1).cls,.int .i64 (numI y.1).tag,.bool (numI y.1).cons,.slice a1 n1 c1,.slice k1 m1 e1,.int .i64 (numI y.2).cls,.int .i64 (numI y.2).tag,.bool (numI y.2).cons,.slice a2 n2 c2,.slice k2 m2 e2] 75)) (by kernel_rfl) ?_
     exact hKQ.out _ _ (hI.pu 15 30 hz hUN HBB stb ((Below.refl _ _).alloc (Nat.le_refl _) _) ⟨W.heap.size,rfl,kidZ_n2 hI.bel.size o1 o2⟩)
    ·obtain ⟨gr,f0,o0⟩:=hI.ge 15 hED
     replace f0:aT b 30=_:=f0
     refine opw_c1 80 30 Tryz.func80 f0 ?_
     refine (l9Struct_R o0 rfl).mono ?_
     rintro r W2 ⟨⟨a0,n0,c0,k0,m0,e0,rfl,hzI⟩,hb⟩
     exact ⟨_,rfl,hKQ.out _ _ (hI.pu 16 31 hz hUN HBB stb hb ⟨a0,n0,c0,k0,m0,e0,rfl,hzI⟩)⟩
    ·obtain ⟨a0,n0,c0,k0,m0,e0,f0,o0⟩:=hI.ge 16 hED
     replace f0:aT b 31=_:=f0
     refine opw_buildSliceT _ 1 _ rfl #[(0,.agg #[.int .i64 (mapI y).cls,.int .i64 (mapI y).tag,.bool (mapI y).cons,.slice a0 n0 c0,.slice k0 m0 e0])] (by simp [ev,f0]) (.slice (some ⟨W.heap.size,0,none⟩) 1 1) (W.alloc (.cells #[.int .i64 (mapI y).cls,.int .i64 (mapI y).tag,.bool (mapI y).cons,.slice a0 n0 c0,.slice k0 m0 e0] 75)) (by kernel_rfl) ?_
     have hbA:Below W.heap.size W (W.alloc (.cells #[.int .i64 (mapI y).cls,.int .i64 (mapI y).tag,.bool (mapI y).cons,.slice a0 n0 c0,.slice k0 m0 e0] 75)):=(Below.refl _ _).alloc (Nat.le_refl _) _
     exact hKQ.out _ _ (hI.pu 17 32 hz hUN HBB stb hbA ⟨W.heap.size,a0,n0,c0,k0,m0,e0,rfl,heap_alloc_new W _,o0.kept hbA,hI.bel.size⟩)
    ·obtain ⟨g8,a0,n0,c0,k0,m0,e0,f1,hg8,o1,_⟩:=hI.ge 17 hED
     have f0:aT b 15=.slice ao kq cc:=hI.ge 0 hED
     have hits:OwnItZ 2 0 w1.heap.size W ao kq cc es0:=hI.vot1 21 18 (od rfl) (od rfl) hUN rfl
     replace f1:aT b 32=_:=f1
     obtain ⟨vs,hrow⟩:=hits.row
     have hWs:=hI.bel.size
     refine wp_append_lies W (.tmp 15) (.tmp 32) 73 rfl 0 75 i0 _ 5 72 Tryz.underlying73 hi hz0 hz1 hz2 rfl (by decide) (.slice ao kq cc) kq vs f0 hrow ⟨g8,0,none⟩ 1 1 [.int .i64 (mapI y).cls,.int .i64 (mapI y).tag,.bool (mapI y).cons,.slice a0 n0 c0,.slice k0 m0 e0] f1 rfl (World.news_of_block hg8) (by intro u hu; simp only [List.mem_cons,List.not_mem_nil,or_false] at hu; rcases hu with rfl | rfl | rfl | rfl | rfl <;> rfl) (by decide) (by unfold maxLen; omega) (by omega) (Nat.zero_le _) _ rfl ?_
     intro gf cf w' hv hg hl hlt
     have hnew:OwnItZ 2 0 w1.heap.size w' (some ⟨gf,0,none⟩) (kq+1) cf (es0++[mapI y]):=hits.appended o1.it (fun b hb=>⟨by have:=hb.1; have:=HQR; omega,hb.2,fun e=>by have:=HOWN.out b e; have:=hb.1; omega⟩) (by omega) hrow hv hg hl (by have:=HBB; omega)
     have hb':Below w1.heap.size wq w':=hI.bel.grown hg (by have:=HBB; omega) (fun kx hx=>hits.2 kx hx)
     have hno:lQ 19=true→False:=fun h=>by
      have h2:=hI.cl 19 (od rfl) h 18 (List.Mem.head _)
      rw [show lQ 18=false from hUN] at h2
      cases h2
     refine hKQ.out _ _ (hI.turn 18 33 (fun j hj=>by rcases List.mem_singleton.1 hj with rfl; exact edge hED 0 (by kernel_rfl)) rfl (by rw [hz]; decide) rfl hUN rfl hb' ?_ ⟨gf,cf,rfl,hnew⟩)
     intro kx hkx hne hlk hkill u hu
     match kx,hkx,hne,hkill,hu with
      | 0,_,_,_,hu=>exact hu
      | 1,_,_,_,hu=>exact hu
      | 2,_,_,_,hu=>exact hu
      | 3,_,_,_,hu=>exact hu
      | 4,_,_,_,hu=>exact hu
      | 5,_,_,_,hu=>exact hu
      | 6,_,_,_,hu=>exact hu
      | 7,_,_,_,⟨a1,n1,c1,k1,m1,e1,hv,q_0⟩=>exact ⟨a1,n1,c1,k1,m1,e1,hv,q_0.grown hg (fun j hj=>HOWN.out j hj)⟩
      | 8,_,_,_,hu=>exact hu
      | 9,_,_,_,hu=>exact hu
      | 10,_,_,_,hu=>exact hu
      | 11,_,_,_,hu=>exact hu
      | 12,_,_,_,hu=>exact hu
      | 13,_,_,_,hu=>exact hu
      | 14,_,_,_,⟨a2,n2,c2,k2,m2,e2,hv,q_0⟩=>exact ⟨a2,n2,c2,k2,m2,e2,hv,q_0.grown hg (fun j hj=>HOWN.out j hj)⟩
      | 15,_,_,_,⟨gr,hv,q_0⟩=>exact ⟨gr,hv,q_0.grown hg (fun j hj=>HOWN.out j hj)⟩
      | 16,_,_,_,⟨a0,n0,c0,k0,m0,e0,hv,q_0⟩=>exact ⟨a0,n0,c0,k0,m0,e0,hv,q_0.grown hg (fun j hj=>HOWN.out j hj)⟩
      | 17,_,_,_,⟨g8,a0,n0,c0,k0,m0,e0,hv,q_0,q_1,q_2⟩=>exact ⟨g8,a0,n0,c0,k0,m0,e0,hv,(hg.block _ (Array.getElem?_eq_some_iff.1 q_0).1 (fun e=>by have:=(HOWN.out _ e.symm).2; omega)).trans q_0,q_1.grown hg (fun j hj=>HOWN.out j hj),q_2⟩
      | 18,_,hne,_,_=>exact absurd rfl hne
      | 19,_,_,hkill,hu=>exact (hno hlk).elim
      | 20,_,_,_,hu=>exact (hg.block _ (Array.getElem?_eq_some_iff.1 hu).1 (fun e=>HNG.out _ e.symm rfl)).trans hu
      | 21,_,_,hkill,_=>exact absurd (hkill 18 (List.Mem.head _)) (by rw [upd_same]; decide)
      | 22,_,_,_,hu=>exact hu
      | kx+23,hkx,_,_,_=>exact absurd hkx (by show ¬ (kx+23<23); omega)
    ·have f:=hI.ge 18 hED
     obtain ⟨gf,cf,f0,o0⟩:=f
     replace f0:aT b 33=_:=f0
     refine opw_assign 33 rfl ?_
     rw [f0]
     exact hKQ.out _ _ (hI.putp 19 3 (fun j hj=>by rcases List.mem_singleton.1 hj with rfl; exact edge hED 18 (by kernel_rfl)) rfl (by rw [hz]; decide) rfl hUN rfl HBB stb (Below.refl _ _) ⟨gf,cf,rfl,o0⟩)
   ·intro b W hf hb F
    clear stb
    obtain ⟨gf,cf,e3,hits⟩:=F 19 (od rfl) rfl
    replace e3:aT b 3=_:=e3
    rw [hf.eq]
    simp only [puts,Act.put,List.setIfInBounds_toArray,List.set_cons_zero,List.set_cons_succ,e3]
    clear hf F e3
    generalize aT b=AT
    clear b
    have HO7:Hid (OwnItZ 2 0 w1.heap.size W (some ⟨gf,0,none⟩) (kq+1) cf ((x.maps.take (kq+1)).map mapI)):=by show OwnItZ _ _ _ _ _ _ _ _; rw [HXK.out]; exact hits
    have B7:Below w1.heap.size w1 W:=hbr.trans hb
    clear hits
    go_wp2
    go_roundw
    case rel=>exact ⟨kq+1,_,cf,by omega,by go_num,rfl,HO7,B7⟩
    case measure=>simp [intOf]; omega
  ·obtain rfl:kq=s.n7:=by omega
   obtain ⟨w2,hw2⟩:∃ w2,w2=wr:=⟨_,rfl⟩
   have HLM:Hid (ListZ 0 w1.heap.size 3 w2 ao s.n7 (x.maps.map mapI)):=⟨by
    have:=HO.out.kids
    rw [List.take_of_length_le (by rw [HL7.out]; exact Nat.le_refl _),← hw2] at this
    exact this⟩
   have hb12:Below w1.heap.size w1 w2:=by rw [hw2]; exact hbr
   have hws2:w1.heap.size≤w2.heap.size:=hb12.size
   have HB2:Hid (w2.heap[w.heap.size]? = some (.cells #[.int .i64 x.ser,.slice s.a1 s.n1 s.c1,.slice s.a2 s.n2 s.c2,.int .i64 x.frm,.int .i64 x.til,.int .i64 x.key.1,.int .u64 x.key.2.1,.int .i64 x.key.2.2,.bool x.ca,.int .i64 x.room,.int .i64 x.uses,.slice s.a3 s.n3 s.c3,.slice s.a4 s.n4 s.c4,.slice s.a5 s.n5 s.c5,.slice s.a6 s.n6 s.c6,.slice s.a7 s.n7 s.c7,.int .i64 x.need,.int .i64 x.nomap,.int .i64 x.noany,.slice s.a8 s.n8 s.c8,.slice s.a9 s.n9 s.c9] 46 (0,0))):=below_kept HB1.out.1 hb12
   have H8:Hid (XPs w2 s.a8 s.n8 x.ext):=HR.out.r8.kept (keepT hbx hb12)
   have HVS:Hid (∀ k,k<s.n8→(x.ext.getD k default).val.length≤1000):=HCS.out.ext
   have hbE2:Below w2.heap.size w2 (w2.alloc (.cells #[] 75)):=(Below.refl _ _).alloc (Nat.le_refl _) _
   have HO2:Hid (OwnItZ 2 0 w2.heap.size (w2.alloc (.cells #[] 75)) (some ⟨w2.heap.size,0,none⟩) 0 0 ((x.ext.take 0).map exI)):=ownItZ_empty 2 0 w2
   have x19:w2.cell? ⟨w.heap.size,19,none⟩=some (.slice s.a8 s.n8 s.c8):=qk HB2.out rfl
   obtain ⟨am,ham⟩:∃ am,am=ao:=⟨_,rfl⟩
   obtain ⟨cm,hcm⟩:∃ cm,cm=cc:=⟨_,rfl⟩
   have hnn:¬ ((s.n7:Int)<(s.n7:Int)):=by omega
   rw [← hw2] at x15 ⊢
   rw [← ham,← hcm]
   rw [← ham] at HLM
   clear HO hbr hws HBR hw2 ham hcm
   go_wp2
   clear x15
   go_loopw [5,6] (fun o i wr=>∃ (kq:Nat) (ao:Option Addr) (cc:Nat),kq≤s.n8∧i=.int .i64 kq∧o=.slice ao kq cc∧Hid (OwnItZ 2 0 w2.heap.size wr ao kq cc ((x.ext.take kq).map exI))∧Below w2.heap.size w2 wr) (fun _ i _=>s.n8 - (intOf i).toNat)
   case atStart=>exact ⟨0,_,0,Nat.zero_le _,rfl,rfl,HO2,hbE2⟩
   case round =>
    obtain ⟨kq,ao,cc,hk,rfl,rfl,HO,hbr⟩:=hrel
    have hws:=hbr.size
    clear x19
    have HBR:Hid (wr.heap[w.heap.size]? = some (.cells #[.int .i64 x.ser,.slice s.a1 s.n1 s.c1,.slice s.a2 s.n2 s.c2,.int .i64 x.frm,.int .i64 x.til,.int .i64 x.key.1,.int .u64 x.key.2.1,.int .i64 x.key.2.2,.bool x.ca,.int .i64 x.room,.int .i64 x.uses,.slice s.a3 s.n3 s.c3,.slice s.a4 s.n4 s.c4,.slice s.a5 s.n5 s.c5,.slice s.a6 s.n6 s.c6,.slice s.a7 s.n7 s.c7,.int .i64 x.need,.int .i64 x.nomap,.int .i64 x.noany,.slice s.a8 s.n8 s.c8,.slice s.a9 s.n9 s.c9] 46 (0,0))):=below_kept HB2.out hbr
    have x19:wr.cell? ⟨w.heap.size,19,none⟩=some (.slice s.a8 s.n8 s.c8):=qk HBR.out rfl
    by_cases hkn:kq<s.n8
    ·obtain ⟨b0,off,t,hA,hlb,hc,hp⟩:=H8.out.get kq hkn
     have HA:Hid (s.a8=some ⟨b0,off,none⟩):=hA
     obtain ⟨y,hy⟩:∃ y,y=x.ext.getD kq default:=⟨_,rfl⟩
     rw [← hy] at hc hp
     obtain ⟨sa,sn,sc⟩:=t
     have hl9:y.val.length=sn:=hp.r1.len
     have HSV:sn≤1000:=by have:=HVS.out kq hkn; rw [← hy] at this; omega
     have HNL:sa=none→sc=0:=hp.nl1
     obtain ⟨es0,hes⟩:∃ es0,es0=(x.ext.take kq).map exI:=⟨_,rfl⟩
     have HXK:Hid ((x.ext.take (kq+1)).map exI=es0++[exI y]):=by show _=_; rw [hes,hy]; exact ExiS_next x.ext kq (by rw [HL8.out]; exact hkn)
     have HOR:Hid (OwnItZ 2 0 w2.heap.size wr ao kq cc es0):=by show OwnItZ _ _ _ _ _ _ _ _; rw [hes]; exact HO.out
     have HOWN:Hid (∀ b,(Value.slice ao kq cc).ownBlock=some b→0≤b∧b<wr.heap.size):=fun b hb=>by obtain ⟨vs0,hv0⟩:=HO.out.row; exact ⟨Nat.zero_le _,(hv0.lt b hb).2⟩
     have HNG:Hid (∀ b,(Value.slice ao kq cc).ownBlock=some b→b≠w.heap.size):=fun b hb=>by have:=HO.out.2 b hb; omega
     have HCE0:Hid (∀ W,Below w2.heap.size wr W→W.cell? ⟨b0,off+kq * 3,none⟩=some (.int .i64 y.id)):=fun W hW=>((hbr.trans hW).cell (p:=⟨b0,off+kq * 3,none⟩) hlb).trans hc.c0
     have HCE1:Hid (∀ W,Below w2.heap.size wr W→W.cell? ⟨b0,off+kq * 3+1,none⟩=some (.bool y.crit)):=fun W hW=>((hbr.trans hW).cell (p:=⟨b0,off+kq * 3+1,none⟩) hlb).trans hc.c1
     have HCE2:Hid (∀ W,Below w2.heap.size wr W→W.cell? ⟨b0,off+kq * 3+2,none⟩=some (.slice sa sn sc)):=fun W hW=>((hbr.trans hW).cell (p:=⟨b0,off+kq * 3+2,none⟩) hlb).trans hc.c2
     have HRV:Hid (∀ W,Below w2.heap.size wr W→Row W sa sn y.val):=fun W hW=>hp.r1.kept (hbr.trans hW)
     have HBB:w2.heap.size≤wr.heap.size:=hws
     have HQR:w2.heap.size≤wr.heap.size:=hws
     have hkni:(kq:Int)<(s.n8:Int):=by omega
     clear hy hc hp hes HO hA
     go_upto_region 10 with fail
     clear x19
     obtain ⟨wq,hwq⟩:∃ wq,wq=wr:=⟨_,rfl⟩
     rw [← hwq] at HBR HOR HOWN HCE0 HCE1 HCE2 HRV HBB HQR hbr hws ⊢
     clear hwq
     have stb:=cd4e_stb s x y sa sn sc b0 off ao kq cc es0 wq.heap.size w2.heap.size w.heap.size (w2.heap.size)
     refine wp_region_ri (cd4e s x y sa sn sc b0 off ao kq cc es0 wq.heap.size w2.heap.size w.heap.size (w2.heap.size)) [5,42,43,44,45,46,47,48,49,50,51,52,53,54,55,56,57,58,59,60,61,62,63,64,65,66,67] (w2.heap.size) (fun a0=>a0.tmps.size=122∧aT a0 1=.pointer (some ⟨w.heap.size,0,none⟩)∧aT a0 6=.int .i64 (kq:Int)) (by kernel_rfl) rfl (by kernel_rfl) rfl ⟨rfl,rfl,rfl⟩ stb ?_ ?_ ?_
     ·exact vt3 (m:=27) (HBR.out) (HOR.out) (rfl)
     ·rintro a0 ⟨hz,g1,g6⟩
      refine StepsRI.cons ?_ (StepsRI.cons ?_ (StepsRI.cons ?_ (StepsRI.cons ?_ (StepsRI.cons ?_ (StepsRI.cons ?_ (StepsRI.cons ?_ (StepsRI.cons ?_ (StepsRI.cons ?_ (StepsRI.cons ?_ (StepsRI.cons ?_ (StepsRI.cons ?_ (StepsRI.cons ?_ (StepsRI.cons ?_ (StepsRI.cons ?_ (StepsRI.cons ?_ (StepsRI.cons ?_ (StepsRI.cons ?_ (StepsRI.cons ?_ (StepsRI.cons ?_ (StepsRI.cons ?_ (StepsRI.cons ?_ (StepsRI.cons ?_ (StepsRI.cons ?_ (StepsRI.cons ?_ (StepsRI.cons ?_ (StepsRI.cons ?_ (StepsRI.nil)))))))))))))))))))))))))))
      all_goals intro lQ b W hI hUN hED KQ hKQ
      ·have huA:lQ 26=false:=unT fun h=>by
        have h2:=hI.cl 25 (od rfl) (hI.cl 26 (od rfl) h 25 (List.Mem.head _)) 0 (List.Mem.head _)
        rw [show lQ 0=false from hUN] at h2
        cases h2
       have f:aT b 5=.slice ao kq cc:=hI.vot1 29 26 (od rfl) (od rfl) huA rfl
       exact opw_move 5 rfl (hKQ.out _ _ (hI.pu 0 42 hz hUN HBB stb (Below.refl _ _) f))
      ·exact opw_field 46 1 17 rfl _ ((hI.fr.same 1 (by decide)).trans g1) _ (by kernel_rfl) (hKQ.out _ _ (hI.pu 1 43 hz hUN HBB stb (Below.refl _ _) rfl))
      ·have f:=hI.ge 1 hED
       have hg:=(hI.vo 27)
       have hc:W.cell? ⟨w.heap.size,19,none⟩=some (.slice s.a8 s.n8 s.c8):=qk hg rfl
       exact opw_load1 44 43 rfl _ f _ (by simp [Instr.loadAt,go_sem,hc]) (hKQ.out _ _ (hI.pu 2 44 hz hUN HBB stb (Below.refl _ _) rfl))
      ·exact opw_move 6 rfl (hKQ.out _ _ (hI.pu 3 45 hz hUN HBB stb (Below.refl _ _) ((hI.fr.same 6 (by decide)).trans g6)))
      ·have f0:aT b 44=.slice (some ⟨b0,off,none⟩) s.n8 s.c8:=(hI.ge 2 hED).trans (by rw [HA.out])
       have f1:aT b 45=.int .i64 (kq:Int):=hI.ge 3 hED
       exact opw_indexY 44 44 45 rfl _ _ f0 f1 _ (indexExt b0 off s.n8 s.c8 kq W hkn) (hKQ.out _ _ (hI.pu 4 46 hz hUN HBB stb (Below.refl _ _) rfl))
      ·have f:aT b 46=.pointer (some ⟨b0,off+kq * 3,none⟩):=hI.ge 4 hED
       exact opw_field 113 46 0 rfl _ f (.pointer (some ⟨b0,off+kq * 3,none⟩)) (by kernel_rfl) (hKQ.out _ _ (hI.pu 5 47 hz hUN HBB stb (Below.refl _ _) rfl))
      ·have f:aT b 47=.pointer (some ⟨b0,off+kq * 3,none⟩):=hI.ge 5 hED
       have hc:W.cell? ⟨b0,off+kq * 3,none⟩=some (.int .i64 y.id):=HCE0.out W hI.bel
       exact opw_load1 2 47 rfl _ f _ (by simp [Instr.loadAt,go_sem,hc]) (hKQ.out _ _ (hI.pu 6 48 hz hUN HBB stb (Below.refl _ _) rfl))
      ·have f0:aT b 48=.int .i64 y.id:=hI.ge 6 hED
       refine opw_c1 81 48 Tryz.func81 f0 ?_
       refine (l9Num_R y.id 0 W).mono ?_
       rintro r W2 ⟨⟨a1,n1,c1,k1,m1,e1,rfl,hzI⟩,hb⟩
       exact ⟨_,rfl,hKQ.out _ _ (hI.pu 7 49 hz hUN HBB stb hb ⟨a1,n1,c1,k1,m1,e1,rfl,((hzI.mono hI.bel.size).le (by decide))⟩)⟩
      ·exact opw_field 46 1 17 rfl _ ((hI.fr.same 1 (by decide)).trans g1) _ (by kernel_rfl) (hKQ.out _ _ (hI.pu 8 50 hz hUN HBB stb (Below.refl _ _) rfl))
      ·have f:=hI.ge 8 hED
       have hg:=(hI.vo 27)
       have hc:W.cell? ⟨w.heap.size,19,none⟩=some (.slice s.a8 s.n8 s.c8):=qk hg rfl
       exact opw_load1 44 50 rfl _ f _ (by simp [Instr.loadAt,go_sem,hc]) (hKQ.out _ _ (hI.pu 9 51 hz hUN HBB stb (Below.refl _ _) rfl))
      ·exact opw_move 6 rfl (hKQ.out _ _ (hI.pu 10 52 hz hUN HBB stb (Below.refl _ _) ((hI.fr.same 6 (by decide)).trans g6)))
      ·have f0:aT b 51=.slice (some ⟨b0,off,none⟩) s.n8 s.c8:=(hI.ge 9 hED).trans (by rw [HA.out])
       have f1:aT b 52=.int .i64 (kq:Int):=hI.ge 10 hED
       exact opw_indexY 44 51 52 rfl _ _ f0 f1 _ (indexExt b0 off s.n8 s.c8 kq W hkn) (hKQ.out _ _ (hI.pu 11 53 hz hUN HBB stb (Below.refl _ _) rfl))
      ·have f:aT b 53=.pointer (some ⟨b0,off+kq * 3,none⟩):=hI.ge 11 hED
       exact opw_field 113 53 1 rfl _ f (.pointer (some ⟨b0,off+kq * 3+1,none⟩)) (by kernel_rfl) (hKQ.out _ _ (hI.pu 12 54 hz hUN HBB stb (Below.refl _ _) rfl))
      ·have f:aT b 54=.pointer (some ⟨b0,off+kq * 3+1,none⟩):=hI.ge 12 hED
       have hc:W.cell? ⟨b0,off+kq * 3+1,none⟩=some (.bool y.crit):=HCE1.out W hI.bel
       exact opw_load1 4 54 rfl _ f _ (by simp [Instr.loadAt,go_sem,hc]) (hKQ.out _ _ (hI.pu 13 55 hz hUN HBB stb (Below.refl _ _) rfl))
      ·have f0:aT b 55=.bool y.crit:=hI.ge 13 hED
       refine opw_c1 82 55 Tryz.func82 f0 ?_
       refine (l9Flag_R y.crit W 0 (Nat.zero_le _)).mono ?_
       rintro r W2 ⟨⟨a2,n2,c2,k2,m2,e2,rfl,hzI⟩,hb⟩
       exact ⟨_,rfl,hKQ.out _ _ (hI.pu 14 56 hz hUN HBB stb hb ⟨a2,n2,c2,k2,m2,e2,rfl,((hzI.mono hI.bel.size).le (by decide))⟩)⟩
      ·exact opw_field 46 1 17 rfl _ ((hI.fr.same 1 (by decide)).trans g1) _ (by kernel_rfl) (hKQ.out _ _ (hI.pu 15 57 hz hUN HBB stb (Below.refl _ _) rfl))
      ·have f:=hI.ge 15 hED
       have hg:=(hI.vo 27)
       have hc:W.cell? ⟨w.heap.size,19,none⟩=some (.slice s.a8 s.n8 s.c8):=qk hg rfl
       exact opw_load1 44 57 rfl _ f _ (by simp [Instr.loadAt,go_sem,hc]) (hKQ.out _ _ (hI.pu 16 58 hz hUN HBB stb (Below.refl _ _) rfl))
      ·exact opw_move 6 rfl (hKQ.out _ _ (hI.pu 17 59 hz hUN HBB stb (Below.refl _ _) ((hI.fr.same 6 (by decide)).trans g6)))
      ·have f0:aT b 58=.slice (some ⟨b0,off,none⟩) s.n8 s.c8:=(hI.ge 16 hED).trans (by rw [HA.out])
       have f1:aT b 59=.int .i64 (kq:Int):=hI.ge 17 hED
       exact opw_indexY 44 58 59 rfl _ _ f0 f1 _ (indexExt b0 off s.n8 s.c8 kq W hkn) (hKQ.out _ _ (hI.pu 18 60 hz hUN HBB stb (Below.refl _ _) rfl))
      ·have f:aT b 60=.pointer (some ⟨b0,off+kq * 3,none⟩):=hI.ge 18 hED
       exact opw_field 113 60 2 rfl _ f (.pointer (some ⟨b0,off+kq * 3+2,none⟩)) (by kernel_rfl) (hKQ.out _ _ (hI.pu 19 61 hz hUN HBB stb (Below.refl _ _) rfl))
      ·have f:aT b 61=.pointer (some ⟨b0,off+kq * 3+2,none⟩):=hI.ge 19 hED
       have hc:W.cell? ⟨b0,off+kq * 3+2,none⟩=some (.slice sa sn sc):=HCE2.out W hI.bel
       exact opw_load1 32 61 rfl _ f _ (by simp [Instr.loadAt,go_sem,hc]) (hKQ.out _ _ (hI.pu 20 62 hz hUN HBB stb (Below.refl _ _) rfl))
      ·have f0:aT b 62=.slice sa sn sc:=hI.ge 20 hED
       refine opw_c1 83 62 Tryz.func83 f0 ?_
       refine (l9Bytes_R sa sn sc y.val 0 W (HRV.out W hI.bel) HNL HSV).mono ?_
       rintro r W2 ⟨⟨a3,n3,c3,k3,m3,e3,rfl,hzI⟩,hb⟩
       exact ⟨_,rfl,hKQ.out _ _ (hI.pu 21 63 hz hUN HBB stb hb ⟨a3,n3,c3,k3,m3,e3,rfl,((hzI.mono hI.bel.size).le (by decide))⟩)⟩
      ·obtain ⟨a1,n1,c1,k1,m1,e1,f1,o1⟩:=hI.ge 7 hED
       replace f1:aT b 49=_:=f1
       obtain ⟨a2,n2,c2,k2,m2,e2,f2,o2⟩:=hI.ge 14 hED
       replace f2:aT b 56=_:=f2
       obtain ⟨a3,n3,c3,k3,m3,e3,f3,o3⟩:=hI.ge 21 hED
       replace f3:aT b 63=_:=f3
       refine opw_buildSliceT _ 3 _ rfl #[(0,.agg #[.int .i64 (numI y.id).cls,.int .i64 (numI y.id).tag,.bool (numI y.id).cons,.slice a1 n1 c1,.slice k1 m1 e1]),(1,.agg #[.int .i64 (flgI y.crit).cls,.int .i64 (flgI y.crit).tag,.bool (flgI y.crit).cons,.slice a2 n2 c2,.slice k2 m2 e2]),(2,.agg #[.int .i64 (bytI y.val).cls,.int .i64 (bytI y.val).tag,.bool (bytI y.val).cons,.slice a3 n3 c3,.slice k3 m3 e3])] (by simp [ev,f1,f2,f3]) (.slice (some ⟨W.heap.size,0,none⟩) 3 3) (W.alloc (.cells #[.int .i64 (numI y.id).cls,.int .i64 (numI y.id).tag,.bool (numI y.id).cons,.slice a1 n1 c1,.slice k1 m1 e1,.int .i64 (flgI y.crit).cls,.int .i64 (flgI y.crit).tag,.bool (flgI y.crit).cons,.slice a2 n2 c2,.slice k2 m2 e2,.int .i64 (bytI y.val).cls,.int .i64 (bytI y.val).tag,.bool (bytI y.val).cons,.slice a3 n3 c3,.slice k3 m3 e3] 75)) (by kernel_rfl) ?_
       exact hKQ.out _ _ (hI.pu 22 64 hz hUN HBB stb ((Below.refl _ _).alloc (Nat.le_refl _) _) ⟨W.heap.size,rfl,kidZ_n3 hI.bel.size o1 o2 o3⟩)
      ·obtain ⟨gr,f0,o0⟩:=hI.ge 22 hED
       replace f0:aT b 64=_:=f0
       refine opw_c1 80 64 Tryz.func80 f0 ?_
       refine (l9Struct_R o0 rfl).mono ?_
       rintro r W2 ⟨⟨a0,n0,c0,k0,m0,e0,rfl,hzI⟩,hb⟩
       exact ⟨_,rfl,hKQ.out _ _ (hI.pu 23 65 hz hUN HBB stb hb ⟨a0,n0,c0,k0,m0,e0,rfl,hzI⟩)⟩
      ·obtain ⟨a0,n0,c0,k0,m0,e0,f0,o0⟩:=hI.ge 23 hED
       replace f0:aT b 65=_:=f0
       refine opw_buildSliceT _ 1 _ rfl #[(0,.agg #[.int .i64 (exI y).cls,.int .i64 (exI y).tag,.bool (exI y).cons,.slice a0 n0 c0,.slice k0 m0 e0])] (by simp [ev,f0]) (.slice (some ⟨W.heap.size,0,none⟩) 1 1) (W.alloc (.cells #[.int .i64 (exI y).cls,.int .i64 (exI y).tag,.bool (exI y).cons,.slice a0 n0 c0,.slice k0 m0 e0] 75)) (by kernel_rfl) ?_
       have hbA:Below W.heap.size W (W.alloc (.cells #[.int .i64 (exI y).cls,.int .i64 (exI y).tag,.bool (exI y).cons,.slice a0 n0 c0,.slice k0 m0 e0] 75)):=(Below.refl _ _).alloc (Nat.le_refl _) _
       exact hKQ.out _ _ (hI.pu 24 66 hz hUN HBB stb hbA ⟨W.heap.size,a0,n0,c0,k0,m0,e0,rfl,heap_alloc_new W _,o0.kept hbA,hI.bel.size⟩)
      ·obtain ⟨g8,a0,n0,c0,k0,m0,e0,f1,hg8,o1,_⟩:=hI.ge 24 hED
       have f0:aT b 42=.slice ao kq cc:=hI.ge 0 hED
       have hits:OwnItZ 2 0 w2.heap.size W ao kq cc es0:=hI.vot1 28 25 (od rfl) (od rfl) hUN rfl
       replace f1:aT b 66=_:=f1
       obtain ⟨vs,hrow⟩:=hits.row
       have hWs:=hI.bel.size
       refine wp_append_lies W (.tmp 42) (.tmp 66) 73 rfl 0 75 i0 _ 5 72 Tryz.underlying73 hi hz0 hz1 hz2 rfl (by decide) (.slice ao kq cc) kq vs f0 hrow ⟨g8,0,none⟩ 1 1 [.int .i64 (exI y).cls,.int .i64 (exI y).tag,.bool (exI y).cons,.slice a0 n0 c0,.slice k0 m0 e0] f1 rfl (World.news_of_block hg8) (by intro u hu; simp only [List.mem_cons,List.not_mem_nil,or_false] at hu; rcases hu with rfl | rfl | rfl | rfl | rfl <;> rfl) (by decide) (by unfold maxLen; omega) (by omega) (Nat.zero_le _) _ rfl ?_
       intro gf cf w' hv hg hl hlt
       have hnew:OwnItZ 2 0 w2.heap.size w' (some ⟨gf,0,none⟩) (kq+1) cf (es0++[exI y]):=hits.appended o1.it (fun b hb=>⟨by have:=hb.1; have:=HQR; omega,hb.2,fun e=>by have:=HOWN.out b e; have:=hb.1; omega⟩) (by omega) hrow hv hg hl (by have:=HBB; omega)
       have hb':Below w2.heap.size wq w':=hI.bel.grown hg (by have:=HBB; omega) (fun kx hx=>hits.2 kx hx)
       have hno:lQ 26=true→False:=fun h=>by
        have h2:=hI.cl 26 (od rfl) h 25 (List.Mem.head _)
        rw [show lQ 25=false from hUN] at h2
        cases h2
       refine hKQ.out _ _ (hI.turn 25 67 (fun j hj=>by rcases List.mem_singleton.1 hj with rfl; exact edge hED 0 (by kernel_rfl)) rfl (by rw [hz]; decide) rfl hUN rfl hb' ?_ ⟨gf,cf,rfl,hnew⟩)
       intro kx hkx hne hlk hkill u hu
       match kx,hkx,hne,hkill,hu with
        | 0,_,_,_,hu=>exact hu
        | 1,_,_,_,hu=>exact hu
        | 2,_,_,_,hu=>exact hu
        | 3,_,_,_,hu=>exact hu
        | 4,_,_,_,hu=>exact hu
        | 5,_,_,_,hu=>exact hu
        | 6,_,_,_,hu=>exact hu
        | 7,_,_,_,⟨a1,n1,c1,k1,m1,e1,hv,q_0⟩=>exact ⟨a1,n1,c1,k1,m1,e1,hv,q_0.grown hg (fun j hj=>HOWN.out j hj)⟩
        | 8,_,_,_,hu=>exact hu
        | 9,_,_,_,hu=>exact hu
        | 10,_,_,_,hu=>exact hu
        | 11,_,_,_,hu=>exact hu
        | 12,_,_,_,hu=>exact hu
        | 13,_,_,_,hu=>exact hu
        | 14,_,_,_,⟨a2,n2,c2,k2,m2,e2,hv,q_0⟩=>exact ⟨a2,n2,c2,k2,m2,e2,hv,q_0.grown hg (fun j hj=>HOWN.out j hj)⟩
        | 15,_,_,_,hu=>exact hu
        | 16,_,_,_,hu=>exact hu
        | 17,_,_,_,hu=>exact hu
        | 18,_,_,_,hu=>exact hu
        | 19,_,_,_,hu=>exact hu
        | 20,_,_,_,hu=>exact hu
        | 21,_,_,_,⟨a3,n3,c3,k3,m3,e3,hv,q_0⟩=>exact ⟨a3,n3,c3,k3,m3,e3,hv,q_0.grown hg (fun j hj=>HOWN.out j hj)⟩
        | 22,_,_,_,⟨gr,hv,q_0⟩=>exact ⟨gr,hv,q_0.grown hg (fun j hj=>HOWN.out j hj)⟩
        | 23,_,_,_,⟨a0,n0,c0,k0,m0,e0,hv,q_0⟩=>exact ⟨a0,n0,c0,k0,m0,e0,hv,q_0.grown hg (fun j hj=>HOWN.out j hj)⟩
        | 24,_,_,_,⟨g8,a0,n0,c0,k0,m0,e0,hv,q_0,q_1,q_2⟩=>exact ⟨g8,a0,n0,c0,k0,m0,e0,hv,(hg.block _ (Array.getElem?_eq_some_iff.1 q_0).1 (fun e=>by have:=(HOWN.out _ e.symm).2; omega)).trans q_0,q_1.grown hg (fun j hj=>HOWN.out j hj),q_2⟩
        | 25,_,hne,_,_=>exact absurd rfl hne
        | 26,_,_,hkill,hu=>exact (hno hlk).elim
        | 27,_,_,_,hu=>exact (hg.block _ (Array.getElem?_eq_some_iff.1 hu).1 (fun e=>HNG.out _ e.symm rfl)).trans hu
        | 28,_,_,hkill,_=>exact absurd (hkill 25 (List.Mem.head _)) (by rw [upd_same]; decide)
        | 29,_,_,_,hu=>exact hu
        | kx+30,hkx,_,_,_=>exact absurd hkx (by show ¬ (kx+30<30); omega)
      ·have f:=hI.ge 25 hED
       obtain ⟨gf,cf,f0,o0⟩:=f
       replace f0:aT b 67=_:=f0
       refine opw_assign 67 rfl ?_
       rw [f0]
       exact hKQ.out _ _ (hI.putp 26 5 (fun j hj=>by rcases List.mem_singleton.1 hj with rfl; exact edge hED 25 (by kernel_rfl)) rfl (by rw [hz]; decide) rfl hUN rfl HBB stb (Below.refl _ _) ⟨gf,cf,rfl,o0⟩)
     ·intro b W hf hb F
      clear stb
      obtain ⟨gf,cf,e3,hits⟩:=F 26 (od rfl) rfl
      replace e3:aT b 5=_:=e3
      rw [hf.eq]
      simp only [puts,Act.put,List.setIfInBounds_toArray,List.set_cons_zero,List.set_cons_succ,e3]
      clear hf F e3
      generalize aT b=AT
      clear b
      have HO7:Hid (OwnItZ 2 0 w2.heap.size W (some ⟨gf,0,none⟩) (kq+1) cf ((x.ext.take (kq+1)).map exI)):=by show OwnItZ _ _ _ _ _ _ _ _; rw [HXK.out]; exact hits
      have B7:Below w2.heap.size w2 W:=hbr.trans hb
      clear hits
      go_wp2
      go_roundw
      case rel=>exact ⟨kq+1,_,cf,by omega,by go_num,rfl,HO7,B7⟩
      case measure=>simp [intOf]; omega
    ·obtain rfl:kq=s.n8:=by omega
     have HLE:Hid (ListZ 0 w1.heap.size 3 wr ao s.n8 (x.ext.map exI)):=⟨by
      have:=HO.out.kids
      rw [List.take_of_length_le (by rw [HL8.out]; exact Nat.le_refl _)] at this
      exact this.mono (fun b hb=>⟨by have:=hb.1; omega,hb.2⟩)⟩
     have HLM2:Hid (ListZ 0 w1.heap.size 3 wr am s.n7 (x.maps.map mapI)):=HLM.out.kept hbr
     have hb1r:Below w1.heap.size w1 wr:=hb12.trans (hbr.mono hws2)
     have HBZ:Hid (_=_):=below_kept HB1.out.2 hb1r
     have hbA:Below w.heap.size w wr:=keepT hbx hb1r
     have HW1Q:w1.heap.size≤wr.heap.size:=hb1r.size
     have HBB:w.heap.size≤wr.heap.size:=hbA.size
     have HGB:0≤w.heap.size∧w.heap.size+1<w1.heap.size:=⟨Nat.zero_le _,hszl⟩
     have hnn8:¬ ((s.n8:Int)<(s.n8:Int)):=by omega
     clear HO HLM
     go_upto_region 11 with fail
     clear x19
     have stb:=cd4b_stb s x am cm ao cc 0 w1.heap.size w.heap.size (w.heap.size)
     refine wp_region_ri (cd4b s x am cm ao cc 0 w1.heap.size w.heap.size (w.heap.size)) [68,69,70,71,72,73,74,75,76,77,78,79,80,81,82,83,84,85,86,87,88,89,90,91,92,93,94,95,96,97,98,99,100,101,102,103,104,105,106,107,108,109,110,111,112,113,114,115,116,117,118,119,120,121] (w.heap.size) (fun a0=>a0.tmps.size=122∧aT a0 1=.pointer (some ⟨w.heap.size,0,none⟩)∧aT a0 2=.pointer (some ⟨(w.heap.size+1),0,none⟩)∧aT a0 3=.slice am s.n7 cm∧aT a0 5=.slice ao s.n8 cc) (by kernel_rfl) rfl (by kernel_rfl) rfl ⟨rfl,rfl,rfl,rfl,rfl⟩ stb ?_ ?_ ?_
     ·exact vt4 (m:=55) (HBR.out) (HBZ.out) (⟨HLM2.out,HGB⟩) (⟨HLE.out,HGB⟩)
     ·rintro a0 ⟨hz,g1,g2,g3,g5⟩
      refine StepsRI.cons ?_ (StepsRI.cons ?_ (StepsRI.cons ?_ (StepsRI.cons ?_ (StepsRI.cons ?_ (StepsRI.cons ?_ (StepsRI.cons ?_ (StepsRI.cons ?_ (StepsRI.cons ?_ (StepsRI.cons ?_ (StepsRI.cons ?_ (StepsRI.cons ?_ (StepsRI.cons ?_ (StepsRI.cons ?_ (StepsRI.cons ?_ (StepsRI.cons ?_ (StepsRI.cons ?_ (StepsRI.cons ?_ (StepsRI.cons ?_ (StepsRI.cons ?_ (StepsRI.cons ?_ (StepsRI.cons ?_ (StepsRI.cons ?_ (StepsRI.cons ?_ (StepsRI.cons ?_ (StepsRI.cons ?_ (StepsRI.cons ?_ (StepsRI.cons ?_ (StepsRI.cons ?_ (StepsRI.cons ?_ (StepsRI.cons ?_ (StepsRI.cons ?_ (StepsRI.cons ?_ (StepsRI.cons ?_ (StepsRI.cons ?_ (StepsRI.cons ?_ (StepsRI.cons ?_ (StepsRI.cons ?_ (StepsRI.cons ?_ (StepsRI.cons ?_ (StepsRI.cons ?_ (StepsRI.cons ?_ (StepsRI.cons ?_ (StepsRI.cons ?_ (StepsRI.cons ?_ (StepsRI.cons ?_ (StepsRI.cons ?_ (StepsRI.cons ?_ (StepsRI.cons ?_ (StepsRI.cons ?_ (StepsRI.cons ?_ (StepsRI.cons ?_ (StepsRI.cons ?_ (StepsRI.cons ?_ (StepsRI.cons ?_ (StepsRI.nil)))))))))))))))))))))))))))))))))))))))))))))))))))))))
      all_goals intro lQ b W hI hUN hED KQ hKQ
      ·exact opw_field 46 1 0 rfl _ ((hI.fr.same 1 (by decide)).trans g1) _ (by kernel_rfl) (hKQ.out _ _ (hI.pu 0 68 hz hUN HBB stb (Below.refl _ _) rfl))
      ·have f:=hI.ge 0 hED
       have hg:=(hI.vo 55)
       have hc:W.cell? ⟨w.heap.size,0,none⟩=some (.int .i64 x.ser):=qk hg rfl
       exact opw_load1 2 68 rfl _ f _ (by simp [Instr.loadAt,go_sem,hc]) (hKQ.out _ _ (hI.pu 1 69 hz hUN HBB stb (Below.refl _ _) rfl))
      ·have f0:aT b 69=.int .i64 x.ser:=hI.ge 1 hED
       refine opw_c1 81 69 Tryz.func81 f0 ?_
       refine (l9Num_R x.ser 0 W).mono ?_
       rintro r W2 ⟨⟨a1,n1,c1,k1,m1,e1,rfl,hzI⟩,hb⟩
       exact ⟨_,rfl,hKQ.out _ _ (hI.pu 2 70 hz hUN HBB stb hb ⟨a1,n1,c1,k1,m1,e1,rfl,((hzI.mono (Nat.le_trans HW1Q hI.bel.size)).le (by decide)),HGB⟩)⟩
      ·exact opw_field 46 1 1 rfl _ ((hI.fr.same 1 (by decide)).trans g1) _ (by kernel_rfl) (hKQ.out _ _ (hI.pu 3 71 hz hUN HBB stb (Below.refl _ _) rfl))
      ·have f:aT b 71=.pointer (some ⟨w.heap.size,1,none⟩):=hI.ge 3 hED
       have hg:=(hI.vo 55)
       have hc0:W.cell? ⟨w.heap.size,1,none⟩=some (.slice s.a1 s.n1 s.c1):=qk hg rfl
       exact opw_load1 40 71 rfl _ f _ (by simp [Instr.loadAt,go_sem,hc0]) (hKQ.out _ _ (hI.pu 4 72 hz hUN HBB stb (Below.refl _ _) rfl))
      ·have f0:aT b 72=.agg #[.slice s.a1 s.n1 s.c1]:=hI.ge 4 hED
       refine opw_c1 85 72 Tryz.func85 f0 ?_
       refine (l9Name_R s.a1 s.n1 s.c1 x.iss W (HR.out.kept (hbA.trans hI.bel)).r1 HCS.out.l1 HCS.out.iss).mono ?_
       rintro r W2 ⟨⟨a2,n2,c2,k2,m2,e2,rfl,hzI⟩,hb⟩
       exact ⟨_,rfl,hKQ.out _ _ (hI.pu 5 73 hz hUN HBB stb hb ⟨a2,n2,c2,k2,m2,e2,rfl,((hzI.mono (Nat.le_trans HW1Q hI.bel.size)).le (by decide)),HGB⟩)⟩
      ·exact opw_field 46 1 2 rfl _ ((hI.fr.same 1 (by decide)).trans g1) _ (by kernel_rfl) (hKQ.out _ _ (hI.pu 6 74 hz hUN HBB stb (Below.refl _ _) rfl))
      ·have f:aT b 74=.pointer (some ⟨w.heap.size,2,none⟩):=hI.ge 6 hED
       have hg:=(hI.vo 55)
       have hc0:W.cell? ⟨w.heap.size,2,none⟩=some (.slice s.a2 s.n2 s.c2):=qk hg rfl
       exact opw_load1 40 74 rfl _ f _ (by simp [Instr.loadAt,go_sem,hc0]) (hKQ.out _ _ (hI.pu 7 75 hz hUN HBB stb (Below.refl _ _) rfl))
      ·have f0:aT b 75=.agg #[.slice s.a2 s.n2 s.c2]:=hI.ge 7 hED
       refine opw_c1 85 75 Tryz.func85 f0 ?_
       refine (l9Name_R s.a2 s.n2 s.c2 x.sub W (HR.out.kept (hbA.trans hI.bel)).r2 HCS.out.l2 HCS.out.sub).mono ?_
       rintro r W2 ⟨⟨a3,n3,c3,k3,m3,e3,rfl,hzI⟩,hb⟩
       exact ⟨_,rfl,hKQ.out _ _ (hI.pu 8 76 hz hUN HBB stb hb ⟨a3,n3,c3,k3,m3,e3,rfl,((hzI.mono (Nat.le_trans HW1Q hI.bel.size)).le (by decide)),HGB⟩)⟩
      ·exact opw_field 46 1 3 rfl _ ((hI.fr.same 1 (by decide)).trans g1) _ (by kernel_rfl) (hKQ.out _ _ (hI.pu 9 77 hz hUN HBB stb (Below.refl _ _) rfl))
      ·have f:=hI.ge 9 hED
       have hg:=(hI.vo 55)
       have hc:W.cell? ⟨w.heap.size,3,none⟩=some (.int .i64 x.frm):=qk hg rfl
       exact opw_load1 2 77 rfl _ f _ (by simp [Instr.loadAt,go_sem,hc]) (hKQ.out _ _ (hI.pu 10 78 hz hUN HBB stb (Below.refl _ _) rfl))
      ·have f0:aT b 78=.int .i64 x.frm:=hI.ge 10 hED
       refine opw_c1 81 78 Tryz.func81 f0 ?_
       refine (l9Num_R x.frm 0 W).mono ?_
       rintro r W2 ⟨⟨a4,n4,c4,k4,m4,e4,rfl,hzI⟩,hb⟩
       exact ⟨_,rfl,hKQ.out _ _ (hI.pu 11 79 hz hUN HBB stb hb ⟨a4,n4,c4,k4,m4,e4,rfl,((hzI.mono (Nat.le_trans HW1Q hI.bel.size)).le (by decide)),HGB⟩)⟩
      ·exact opw_field 46 1 4 rfl _ ((hI.fr.same 1 (by decide)).trans g1) _ (by kernel_rfl) (hKQ.out _ _ (hI.pu 12 80 hz hUN HBB stb (Below.refl _ _) rfl))
      ·have f:=hI.ge 12 hED
       have hg:=(hI.vo 55)
       have hc:W.cell? ⟨w.heap.size,4,none⟩=some (.int .i64 x.til):=qk hg rfl
       exact opw_load1 2 80 rfl _ f _ (by simp [Instr.loadAt,go_sem,hc]) (hKQ.out _ _ (hI.pu 13 81 hz hUN HBB stb (Below.refl _ _) rfl))
      ·have f0:aT b 81=.int .i64 x.til:=hI.ge 13 hED
       refine opw_c1 81 81 Tryz.func81 f0 ?_
       refine (l9Num_R x.til 0 W).mono ?_
       rintro r W2 ⟨⟨a5,n5,c5,k5,m5,e5,rfl,hzI⟩,hb⟩
       exact ⟨_,rfl,hKQ.out _ _ (hI.pu 14 82 hz hUN HBB stb hb ⟨a5,n5,c5,k5,m5,e5,rfl,((hzI.mono (Nat.le_trans HW1Q hI.bel.size)).le (by decide)),HGB⟩)⟩
      ·exact opw_field 46 1 5 rfl _ ((hI.fr.same 1 (by decide)).trans g1) _ (by kernel_rfl) (hKQ.out _ _ (hI.pu 15 83 hz hUN HBB stb (Below.refl _ _) rfl))
      ·have f:aT b 83=.pointer (some ⟨w.heap.size,5,none⟩):=hI.ge 15 hED
       have hg:=(hI.vo 55)
       have hc0:W.cell? ⟨w.heap.size,5,none⟩=some (.int .i64 x.key.1):=qk hg rfl
       have hc1:W.cell? ⟨w.heap.size,6,none⟩=some (.int .u64 x.key.2.1):=qk hg rfl
       have hc2:W.cell? ⟨w.heap.size,7,none⟩=some (.int .i64 x.key.2.2):=qk hg rfl
       exact opw_load1 41 83 rfl _ f _ (by simp [Instr.loadAt,go_sem,hc0,hc1,hc2]) (hKQ.out _ _ (hI.pu 16 84 hz hUN HBB stb (Below.refl _ _) rfl))
      ·have f0:aT b 84=.agg #[.int .i64 x.key.1,.int .u64 x.key.2.1,.int .i64 x.key.2.2]:=hI.ge 16 hED
       refine opw_c1 86 84 Tryz.func86 f0 ?_
       refine (l9Pub_R x.key 0 W (Nat.zero_le _) HCS.out.key).mono ?_
       rintro r W2 ⟨⟨a6,n6,c6,k6,m6,e6,rfl,hzI⟩,hb⟩
       exact ⟨_,rfl,hKQ.out _ _ (hI.pu 17 85 hz hUN HBB stb hb ⟨a6,n6,c6,k6,m6,e6,rfl,((hzI.mono (Nat.le_trans HW1Q hI.bel.size)).le (by decide)),HGB⟩)⟩
      ·exact opw_field 46 1 6 rfl _ ((hI.fr.same 1 (by decide)).trans g1) _ (by kernel_rfl) (hKQ.out _ _ (hI.pu 18 86 hz hUN HBB stb (Below.refl _ _) rfl))
      ·have f:=hI.ge 18 hED
       have hg:=(hI.vo 55)
       have hc:W.cell? ⟨w.heap.size,8,none⟩=some (.bool x.ca):=qk hg rfl
       exact opw_load1 4 86 rfl _ f _ (by simp [Instr.loadAt,go_sem,hc]) (hKQ.out _ _ (hI.pu 19 87 hz hUN HBB stb (Below.refl _ _) rfl))
      ·have f0:aT b 87=.bool x.ca:=hI.ge 19 hED
       refine opw_c1 82 87 Tryz.func82 f0 ?_
       refine (l9Flag_R x.ca W 0 (Nat.zero_le _)).mono ?_
       rintro r W2 ⟨⟨a7,n7,c7,k7,m7,e7,rfl,hzI⟩,hb⟩
       exact ⟨_,rfl,hKQ.out _ _ (hI.pu 20 88 hz hUN HBB stb hb ⟨a7,n7,c7,k7,m7,e7,rfl,((hzI.mono (Nat.le_trans HW1Q hI.bel.size)).le (by decide)),HGB⟩)⟩
      ·exact opw_field 46 1 7 rfl _ ((hI.fr.same 1 (by decide)).trans g1) _ (by kernel_rfl) (hKQ.out _ _ (hI.pu 21 89 hz hUN HBB stb (Below.refl _ _) rfl))
      ·have f:=hI.ge 21 hED
       have hg:=(hI.vo 55)
       have hc:W.cell? ⟨w.heap.size,9,none⟩=some (.int .i64 x.room):=qk hg rfl
       exact opw_load1 2 89 rfl _ f _ (by simp [Instr.loadAt,go_sem,hc]) (hKQ.out _ _ (hI.pu 22 90 hz hUN HBB stb (Below.refl _ _) rfl))
      ·have f0:aT b 90=.int .i64 x.room:=hI.ge 22 hED
       refine opw_c1 81 90 Tryz.func81 f0 ?_
       refine (l9Num_R x.room 0 W).mono ?_
       rintro r W2 ⟨⟨a8,n8,c8,k8,m8,e8,rfl,hzI⟩,hb⟩
       exact ⟨_,rfl,hKQ.out _ _ (hI.pu 23 91 hz hUN HBB stb hb ⟨a8,n8,c8,k8,m8,e8,rfl,((hzI.mono (Nat.le_trans HW1Q hI.bel.size)).le (by decide)),HGB⟩)⟩
      ·exact opw_field 46 1 8 rfl _ ((hI.fr.same 1 (by decide)).trans g1) _ (by kernel_rfl) (hKQ.out _ _ (hI.pu 24 92 hz hUN HBB stb (Below.refl _ _) rfl))
      ·have f:=hI.ge 24 hED
       have hg:=(hI.vo 55)
       have hc:W.cell? ⟨w.heap.size,10,none⟩=some (.int .i64 x.uses):=qk hg rfl
       exact opw_load1 2 92 rfl _ f _ (by simp [Instr.loadAt,go_sem,hc]) (hKQ.out _ _ (hI.pu 25 93 hz hUN HBB stb (Below.refl _ _) rfl))
      ·have f0:aT b 93=.int .i64 x.uses:=hI.ge 25 hED
       refine opw_c1 81 93 Tryz.func81 f0 ?_
       refine (l9Num_R x.uses 0 W).mono ?_
       rintro r W2 ⟨⟨a9,n9,c9,k9,m9,e9,rfl,hzI⟩,hb⟩
       exact ⟨_,rfl,hKQ.out _ _ (hI.pu 26 94 hz hUN HBB stb hb ⟨a9,n9,c9,k9,m9,e9,rfl,((hzI.mono (Nat.le_trans HW1Q hI.bel.size)).le (by decide)),HGB⟩)⟩
      ·exact opw_field 46 1 9 rfl _ ((hI.fr.same 1 (by decide)).trans g1) _ (by kernel_rfl) (hKQ.out _ _ (hI.pu 27 95 hz hUN HBB stb (Below.refl _ _) rfl))
      ·have f:=hI.ge 27 hED
       have hg:=(hI.vo 55)
       have hc:W.cell? ⟨w.heap.size,11,none⟩=some (.slice s.a3 s.n3 s.c3):=qk hg rfl
       exact opw_load1 42 95 rfl _ f _ (by simp [Instr.loadAt,go_sem,hc]) (hKQ.out _ _ (hI.pu 28 96 hz hUN HBB stb (Below.refl _ _) rfl))
      ·have f0:aT b 96=.slice s.a3 s.n3 s.c3:=hI.ge 28 hED
       refine opw_c1 87 96 Tryz.func87 f0 ?_
       refine (l9GenList_R s.a3 s.n3 s.c3 x.nms W (HR.out.kept (hbA.trans hI.bel)).r3 HCS.out.l3 HCS.out.nms).mono ?_
       rintro r W2 ⟨⟨a10,n10,c10,k10,m10,e10,rfl,hzI⟩,hb⟩
       exact ⟨_,rfl,hKQ.out _ _ (hI.pu 29 97 hz hUN HBB stb hb ⟨a10,n10,c10,k10,m10,e10,rfl,((hzI.mono (Nat.le_trans HW1Q hI.bel.size)).le (by decide)),HGB⟩)⟩
      ·exact opw_field 46 1 10 rfl _ ((hI.fr.same 1 (by decide)).trans g1) _ (by kernel_rfl) (hKQ.out _ _ (hI.pu 30 98 hz hUN HBB stb (Below.refl _ _) rfl))
      ·have f:=hI.ge 30 hED
       have hg:=(hI.vo 55)
       have hc:W.cell? ⟨w.heap.size,12,none⟩=some (.slice s.a4 s.n4 s.c4):=qk hg rfl
       exact opw_load1 42 98 rfl _ f _ (by simp [Instr.loadAt,go_sem,hc]) (hKQ.out _ _ (hI.pu 31 99 hz hUN HBB stb (Below.refl _ _) rfl))
      ·have f0:aT b 99=.slice s.a4 s.n4 s.c4:=hI.ge 31 hED
       refine opw_c1 87 99 Tryz.func87 f0 ?_
       refine (l9GenList_R s.a4 s.n4 s.c4 x.per W (HR.out.kept (hbA.trans hI.bel)).r4 HCS.out.l4 HCS.out.per).mono ?_
       rintro r W2 ⟨⟨a11,n11,c11,k11,m11,e11,rfl,hzI⟩,hb⟩
       exact ⟨_,rfl,hKQ.out _ _ (hI.pu 32 100 hz hUN HBB stb hb ⟨a11,n11,c11,k11,m11,e11,rfl,((hzI.mono (Nat.le_trans HW1Q hI.bel.size)).le (by decide)),HGB⟩)⟩
      ·exact opw_field 46 1 11 rfl _ ((hI.fr.same 1 (by decide)).trans g1) _ (by kernel_rfl) (hKQ.out _ _ (hI.pu 33 101 hz hUN HBB stb (Below.refl _ _) rfl))
      ·have f:=hI.ge 33 hED
       have hg:=(hI.vo 55)
       have hc:W.cell? ⟨w.heap.size,13,none⟩=some (.slice s.a5 s.n5 s.c5):=qk hg rfl
       exact opw_load1 42 101 rfl _ f _ (by simp [Instr.loadAt,go_sem,hc]) (hKQ.out _ _ (hI.pu 34 102 hz hUN HBB stb (Below.refl _ _) rfl))
      ·have f0:aT b 102=.slice s.a5 s.n5 s.c5:=hI.ge 34 hED
       refine opw_c1 87 102 Tryz.func87 f0 ?_
       refine (l9GenList_R s.a5 s.n5 s.c5 x.den W (HR.out.kept (hbA.trans hI.bel)).r5 HCS.out.l5 HCS.out.den).mono ?_
       rintro r W2 ⟨⟨a12,n12,c12,k12,m12,e12,rfl,hzI⟩,hb⟩
       exact ⟨_,rfl,hKQ.out _ _ (hI.pu 35 103 hz hUN HBB stb hb ⟨a12,n12,c12,k12,m12,e12,rfl,((hzI.mono (Nat.le_trans HW1Q hI.bel.size)).le (by decide)),HGB⟩)⟩
      ·exact opw_field 46 1 12 rfl _ ((hI.fr.same 1 (by decide)).trans g1) _ (by kernel_rfl) (hKQ.out _ _ (hI.pu 36 104 hz hUN HBB stb (Below.refl _ _) rfl))
      ·have f:=hI.ge 36 hED
       have hg:=(hI.vo 55)
       have hc:W.cell? ⟨w.heap.size,14,none⟩=some (.slice s.a6 s.n6 s.c6):=qk hg rfl
       exact opw_load1 29 104 rfl _ f _ (by simp [Instr.loadAt,go_sem,hc]) (hKQ.out _ _ (hI.pu 37 105 hz hUN HBB stb (Below.refl _ _) rfl))
      ·have f0:aT b 105=.slice s.a6 s.n6 s.c6:=hI.ge 37 hED
       refine opw_c1 88 105 Tryz.func88 f0 ?_
       refine (l9NumList_R s.a6 s.n6 s.c6 x.pol 0 W (Nat.zero_le _) (HR.out.kept (hbA.trans hI.bel)).r6 HCS.out.l6).mono ?_
       rintro r W2 ⟨⟨a13,n13,c13,k13,m13,e13,rfl,hzI⟩,hb⟩
       exact ⟨_,rfl,hKQ.out _ _ (hI.pu 38 106 hz hUN HBB stb hb ⟨a13,n13,c13,k13,m13,e13,rfl,((hzI.mono (Nat.le_trans HW1Q hI.bel.size)).le (by decide)),HGB⟩)⟩
      ·exact opw_move 3 rfl (hKQ.out _ _ (hI.pu 39 107 hz hUN HBB stb (Below.refl _ _) ((hI.fr.same 3 (by decide)).trans g3)))
      ·obtain ⟨hl0,_⟩:=hI.vo 57
       have f0:aT b 107=.slice am s.n7 cm:=hI.ge 39 hED
       refine opw_c1 89 107 Tryz.func89 f0 ?_
       refine (l9List_R hl0).mono ?_
       rintro r W2 ⟨⟨a14,n14,c14,k14,m14,e14,rfl,hzI⟩,hb⟩
       exact ⟨_,rfl,hKQ.out _ _ (hI.pu 40 108 hz hUN HBB stb hb ⟨a14,n14,c14,k14,m14,e14,rfl,(hzI.le (by decide)),HGB⟩)⟩
      ·exact opw_field 46 1 14 rfl _ ((hI.fr.same 1 (by decide)).trans g1) _ (by kernel_rfl) (hKQ.out _ _ (hI.pu 41 109 hz hUN HBB stb (Below.refl _ _) rfl))
      ·have f:=hI.ge 41 hED
       have hg:=(hI.vo 55)
       have hc:W.cell? ⟨w.heap.size,16,none⟩=some (.int .i64 x.need):=qk hg rfl
       exact opw_load1 2 109 rfl _ f _ (by simp [Instr.loadAt,go_sem,hc]) (hKQ.out _ _ (hI.pu 42 110 hz hUN HBB stb (Below.refl _ _) rfl))
      ·have f0:aT b 110=.int .i64 x.need:=hI.ge 42 hED
       refine opw_c1 81 110 Tryz.func81 f0 ?_
       refine (l9Num_R x.need 0 W).mono ?_
       rintro r W2 ⟨⟨a15,n15,c15,k15,m15,e15,rfl,hzI⟩,hb⟩
       exact ⟨_,rfl,hKQ.out _ _ (hI.pu 43 111 hz hUN HBB stb hb ⟨a15,n15,c15,k15,m15,e15,rfl,((hzI.mono (Nat.le_trans HW1Q hI.bel.size)).le (by decide)),HGB⟩)⟩
      ·exact opw_field 46 1 15 rfl _ ((hI.fr.same 1 (by decide)).trans g1) _ (by kernel_rfl) (hKQ.out _ _ (hI.pu 44 112 hz hUN HBB stb (Below.refl _ _) rfl))
      ·have f:=hI.ge 44 hED
       have hg:=(hI.vo 55)
       have hc:W.cell? ⟨w.heap.size,17,none⟩=some (.int .i64 x.nomap):=qk hg rfl
       exact opw_load1 2 112 rfl _ f _ (by simp [Instr.loadAt,go_sem,hc]) (hKQ.out _ _ (hI.pu 45 113 hz hUN HBB stb (Below.refl _ _) rfl))
      ·have f0:aT b 113=.int .i64 x.nomap:=hI.ge 45 hED
       refine opw_c1 81 113 Tryz.func81 f0 ?_
       refine (l9Num_R x.nomap 0 W).mono ?_
       rintro r W2 ⟨⟨a16,n16,c16,k16,m16,e16,rfl,hzI⟩,hb⟩
       exact ⟨_,rfl,hKQ.out _ _ (hI.pu 46 114 hz hUN HBB stb hb ⟨a16,n16,c16,k16,m16,e16,rfl,((hzI.mono (Nat.le_trans HW1Q hI.bel.size)).le (by decide)),HGB⟩)⟩
      ·exact opw_field 46 1 16 rfl _ ((hI.fr.same 1 (by decide)).trans g1) _ (by kernel_rfl) (hKQ.out _ _ (hI.pu 47 115 hz hUN HBB stb (Below.refl _ _) rfl))
      ·have f:=hI.ge 47 hED
       have hg:=(hI.vo 55)
       have hc:W.cell? ⟨w.heap.size,18,none⟩=some (.int .i64 x.noany):=qk hg rfl
       exact opw_load1 2 115 rfl _ f _ (by simp [Instr.loadAt,go_sem,hc]) (hKQ.out _ _ (hI.pu 48 116 hz hUN HBB stb (Below.refl _ _) rfl))
      ·have f0:aT b 116=.int .i64 x.noany:=hI.ge 48 hED
       refine opw_c1 81 116 Tryz.func81 f0 ?_
       refine (l9Num_R x.noany 0 W).mono ?_
       rintro r W2 ⟨⟨a17,n17,c17,k17,m17,e17,rfl,hzI⟩,hb⟩
       exact ⟨_,rfl,hKQ.out _ _ (hI.pu 49 117 hz hUN HBB stb hb ⟨a17,n17,c17,k17,m17,e17,rfl,((hzI.mono (Nat.le_trans HW1Q hI.bel.size)).le (by decide)),HGB⟩)⟩
      ·exact opw_move 5 rfl (hKQ.out _ _ (hI.pu 50 118 hz hUN HBB stb (Below.refl _ _) ((hI.fr.same 5 (by decide)).trans g5)))
      ·obtain ⟨hl0,_⟩:=hI.vo 58
       have f0:aT b 118=.slice ao s.n8 cc:=hI.ge 50 hED
       refine opw_c1 89 118 Tryz.func89 f0 ?_
       refine (l9List_R hl0).mono ?_
       rintro r W2 ⟨⟨a18,n18,c18,k18,m18,e18,rfl,hzI⟩,hb⟩
       exact ⟨_,rfl,hKQ.out _ _ (hI.pu 51 119 hz hUN HBB stb hb ⟨a18,n18,c18,k18,m18,e18,rfl,(hzI.le (by decide)),HGB⟩)⟩
      ·obtain ⟨a1,n1,c1,k1,m1,e1,f1,o1,_⟩:=hI.ge 2 hED
       replace f1:aT b 70=_:=f1
       obtain ⟨a2,n2,c2,k2,m2,e2,f2,o2,_⟩:=hI.ge 5 hED
       replace f2:aT b 73=_:=f2
       obtain ⟨a3,n3,c3,k3,m3,e3,f3,o3,_⟩:=hI.ge 8 hED
       replace f3:aT b 76=_:=f3
       obtain ⟨a4,n4,c4,k4,m4,e4,f4,o4,_⟩:=hI.ge 11 hED
       replace f4:aT b 79=_:=f4
       obtain ⟨a5,n5,c5,k5,m5,e5,f5,o5,_⟩:=hI.ge 14 hED
       replace f5:aT b 82=_:=f5
       obtain ⟨a6,n6,c6,k6,m6,e6,f6,o6,_⟩:=hI.ge 17 hED
       replace f6:aT b 85=_:=f6
       obtain ⟨a7,n7,c7,k7,m7,e7,f7,o7,_⟩:=hI.ge 20 hED
       replace f7:aT b 88=_:=f7
       obtain ⟨a8,n8,c8,k8,m8,e8,f8,o8,_⟩:=hI.ge 23 hED
       replace f8:aT b 91=_:=f8
       obtain ⟨a9,n9,c9,k9,m9,e9,f9,o9,_⟩:=hI.ge 26 hED
       replace f9:aT b 94=_:=f9
       obtain ⟨a10,n10,c10,k10,m10,e10,f10,o10,_⟩:=hI.ge 29 hED
       replace f10:aT b 97=_:=f10
       obtain ⟨a11,n11,c11,k11,m11,e11,f11,o11,_⟩:=hI.ge 32 hED
       replace f11:aT b 100=_:=f11
       obtain ⟨a12,n12,c12,k12,m12,e12,f12,o12,_⟩:=hI.ge 35 hED
       replace f12:aT b 103=_:=f12
       obtain ⟨a13,n13,c13,k13,m13,e13,f13,o13,_⟩:=hI.ge 38 hED
       replace f13:aT b 106=_:=f13
       obtain ⟨a14,n14,c14,k14,m14,e14,f14,o14,_⟩:=hI.ge 40 hED
       replace f14:aT b 108=_:=f14
       obtain ⟨a15,n15,c15,k15,m15,e15,f15,o15,_⟩:=hI.ge 43 hED
       replace f15:aT b 111=_:=f15
       obtain ⟨a16,n16,c16,k16,m16,e16,f16,o16,_⟩:=hI.ge 46 hED
       replace f16:aT b 114=_:=f16
       obtain ⟨a17,n17,c17,k17,m17,e17,f17,o17,_⟩:=hI.ge 49 hED
       replace f17:aT b 117=_:=f17
       obtain ⟨a18,n18,c18,k18,m18,e18,f18,o18,_⟩:=hI.ge 51 hED
       replace f18:aT b 119=_:=f18
       refine opw_buildSliceT _ 18 _ rfl #[(0,.agg #[.int .i64 (numI x.ser).cls,.int .i64 (numI x.ser).tag,.bool (numI x.ser).cons,.slice a1 n1 c1,.slice k1 m1 e1]),(1,.agg #[.int .i64 (namI x.iss).cls,.int .i64 (namI x.iss).tag,.bool (namI x.iss).cons,.slice a2 n2 c2,.slice k2 m2 e2]),(2,.agg #[.int .i64 (namI x.sub).cls,.int .i64 (namI x.sub).tag,.bool (namI x.sub).cons,.slice a3 n3 c3,.slice k3 m3 e3]),(3,.agg #[.int .i64 (numI x.frm).cls,.int .i64 (numI x.frm).tag,.bool (numI x.frm).cons,.slice a4 n4 c4,.slice k4 m4 e4]),(4,.agg #[.int .i64 (numI x.til).cls,.int .i64 (numI x.til).tag,.bool (numI x.til).cons,.slice a5 n5 c5,.slice k5 m5 e5]),(5,.agg #[.int .i64 (kyI x.key).cls,.int .i64 (kyI x.key).tag,.bool (kyI x.key).cons,.slice a6 n6 c6,.slice k6 m6 e6]),(6,.agg #[.int .i64 (flgI x.ca).cls,.int .i64 (flgI x.ca).tag,.bool (flgI x.ca).cons,.slice a7 n7 c7,.slice k7 m7 e7]),(7,.agg #[.int .i64 (numI x.room).cls,.int .i64 (numI x.room).tag,.bool (numI x.room).cons,.slice a8 n8 c8,.slice k8 m8 e8]),(8,.agg #[.int .i64 (numI x.uses).cls,.int .i64 (numI x.uses).tag,.bool (numI x.uses).cons,.slice a9 n9 c9,.slice k9 m9 e9]),(9,.agg #[.int .i64 (lstI (x.nms.map gneI)).cls,.int .i64 (lstI (x.nms.map gneI)).tag,.bool (lstI (x.nms.map gneI)).cons,.slice a10 n10 c10,.slice k10 m10 e10]),(10,.agg #[.int .i64 (lstI (x.per.map gneI)).cls,.int .i64 (lstI (x.per.map gneI)).tag,.bool (lstI (x.per.map gneI)).cons,.slice a11 n11 c11,.slice k11 m11 e11]),(11,.agg #[.int .i64 (lstI (x.den.map gneI)).cls,.int .i64 (lstI (x.den.map gneI)).tag,.bool (lstI (x.den.map gneI)).cons,.slice a12 n12 c12,.slice k12 m12 e12]),(12,.agg #[.int .i64 (lstI (x.pol.map numI)).cls,.int .i64 (lstI (x.pol.map numI)).tag,.bool (lstI (x.pol.map numI)).cons,.slice a13 n13 c13,.slice k13 m13 e13]),(13,.agg #[.int .i64 (lstI (x.maps.map mapI)).cls,.int .i64 (lstI (x.maps.map mapI)).tag,.bool (lstI (x.maps.map mapI)).cons,.slice a14 n14 c14,.slice k14 m14 e14]),(14,.agg #[.int .i64 (numI x.need).cls,.int .i64 (numI x.need).tag,.bool (numI x.need).cons,.slice a15 n15 c15,.slice k15 m15 e15]),(15,.agg #[.int .i64 (numI x.nomap).cls,.int .i64 (numI x.nomap).tag,.bool (numI x.nomap).cons,.slice a16 n16 c16,.slice k16 m16 e16]),(16,.agg #[.int .i64 (numI x.noany).cls,.int .i64 (numI x.noany).tag,.bool (numI x.noany).cons,.slice a17 n17 c17,.slice k17 m17 e17]),(17,.agg #[.int .i64 (lstI (x.ext.map exI)).cls,.int .i64 (lstI (x.ext.map exI)).tag,.bool (lstI (x.ext.map exI)).cons,.slice a18 n18 c18,.slice k18 m18 e18])] (by simp [ev,f1,f2,f3,f4,f5,f6,f7,f8,f9,f10,f11,f12,f13,f14,f15,f16,f17,f18]) (.slice (some ⟨W.heap.size,0,none⟩) 18 18) (W.alloc (.cells #[.int .i64 (numI x.ser).cls,.int .i64 (numI x.ser).tag,.bool (numI x.ser).cons,.slice a1 n1 c1,.slice k1 m1 e1,.int .i64 (namI x.iss).cls,.int .i64 (namI x.iss).tag,.bool (namI x.iss).cons,.slice a2 n2 c2,.slice k2 m2 e2,.int .i64 (namI x.sub).cls,.int .i64 (namI x.sub).tag,.bool (namI x.sub).cons,.slice a3 n3 c3,.slice k3 m3 e3,.int .i64 (numI x.frm).cls,.int .i64 (numI x.frm).tag,.bool (numI x.frm).cons,.slice a4 n4 c4,.slice k4 m4 e4,.int .i64 (numI x.til).cls,.int .i64 (numI x.til).tag,.bool (numI x.til).cons,.slice a5 n5 c5,.slice k5 m5 e5,.int .i64 (kyI x.key).cls,.int .i64 (kyI x.key).tag,.bool (kyI x.key).cons,.slice a6 n6 c6,.slice k6 m6 e6,.int .i64 (flgI x.ca).cls,.int .i64 (flgI x.ca).tag,.bool (flgI x.ca).cons,.slice a7 n7 c7,.slice k7 m7 e7,.int .i64 (numI x.room).cls,.int .i64 (numI x.room).tag,.bool (numI x.room).cons,.slice a8 n8 c8,.slice k8 m8 e8,.int .i64 (numI x.uses).cls,.int .i64 (numI x.uses).tag,.bool (numI x.uses).cons,.slice a9 n9 c9,.slice k9 m9 e9,.int .i64 (lstI (x.nms.map gneI)).cls,.int .i64 (lstI (x.nms.map gneI)).tag,.bool (lstI (x.nms.map gneI)).cons,.slice a10 n10 c10,.slice k10 m10 e10,.int .i64 (lstI (x.per.map gneI)).cls,.int .i64 (lstI (x.per.map gneI)).tag,.bool (lstI (x.per.map gneI)).cons,.slice a11 n11 c11,.slice k11 m11 e11,.int .i64 (lstI (x.den.map gneI)).cls,.int .i64 (lstI (x.den.map gneI)).tag,.bool (lstI (x.den.map gneI)).cons,.slice a12 n12 c12,.slice k12 m12 e12,.int .i64 (lstI (x.pol.map numI)).cls,.int .i64 (lstI (x.pol.map numI)).tag,.bool (lstI (x.pol.map numI)).cons,.slice a13 n13 c13,.slice k13 m13 e13,.int .i64 (lstI (x.maps.map mapI)).cls,.int .i64 (lstI (x.maps.map mapI)).tag,.bool (lstI (x.maps.map mapI)).cons,.slice a14 n14 c14,.slice k14 m14 e14,.int .i64 (numI x.need).cls,.int .i64 (numI x.need).tag,.bool (numI x.need).cons,.slice a15 n15 c15,.slice k15 m15 e15,.int .i64 (numI x.nomap).cls,.int .i64 (numI x.nomap).tag,.bool (numI x.nomap).cons,.slice a16 n16 c16,.slice k16 m16 e16,.int .i64 (numI x.noany).cls,.int .i64 (numI x.noany).tag,.bool (numI x.noany).cons,.slice a17 n17 c17,.slice k17 m17 e17,.int .i64 (lstI (x.ext.map exI)).cls,.int .i64 (lstI (x.ext.map exI)).tag,.bool (lstI (x.ext.map exI)).cons,.slice a18 n18 c18,.slice k18 m18 e18] 75)) (by kernel_rfl) ?_
       exact hKQ.out _ _ (hI.pu 52 120 hz hUN HBB stb ((Below.refl _ _).alloc (Nat.le_refl _) _) ⟨W.heap.size,rfl,kidZ_n18 (Nat.le_trans HW1Q hI.bel.size) o1 o2 o3 o4 o5 o6 o7 o8 o9 o10 o11 o12 o13 o14 o15 o16 o17 o18,HGB⟩)
      ·obtain ⟨gr,f0,o0,_⟩:=hI.ge 52 hED
       replace f0:aT b 120=_:=f0
       refine opw_call 84 #[.const (.int .i64 1),.const (.int .i64 1),.tmp 120] _ _ _ rfl Tryz.func84 (by kernel_rfl) rfl #[.int .i64 1,.int .i64 1,.slice (some ⟨gr,0,none⟩) 18 18] (by simp [ev,evc,f0]) ?_
       refine (l2Box_R 1 o0 rfl).mono ?_
       rintro r W2 ⟨⟨a0,n0,c0,k0,m0,e0,rfl,hzI⟩,hb⟩
       exact ⟨_,rfl,hKQ.out _ _ (hI.pu 53 121 hz hUN HBB stb hb ⟨a0,n0,c0,k0,m0,e0,rfl,hzI,HGB⟩)⟩
      ·have hgb:=(hI.vot1 56 54 (od rfl) (od rfl) hUN rfl)
       have fb:=((hI.fr.same 2 (by decide)).trans g2)
       have f:=hI.ge 53 hED
       obtain ⟨a0,n0,c0,k0,m0,e0,f,o_0,o_1⟩:=f
       refine wp_store_row 75 _ _ rfl ((w.heap.size+1)) _ fb f 75 _ hgb (by kernel_rfl) rfl (by simp [Value.oneCell']) ?_
       have ht:=setRow_touch W ((w.heap.size+1)) #[.int .i64 (boxI 1 (ceK x)).cls,.int .i64 (boxI 1 (ceK x)).tag,.bool (boxI 1 (ceK x)).cons,.slice a0 n0 c0,.slice k0 m0 e0]
       exact hKQ.out _ _ (hI.store 54 (fun j hj=>by cases hj) (hI.bel.trans (ht.below (by first | exact HGE2 | omega) (Nat.le_trans HBB hI.bel.size))) (cd4b_st54 s x am cm ao cc 0 w1.heap.size w.heap.size (w.heap.size) hgb ht) ⟨a0,n0,c0,k0,m0,e0,(setRow_heap W ((w.heap.size+1)) _ _ _ _ hgb),o_0.touched ht (by omega),o_1⟩)
     ·intro b W hf hb F
      clear stb
      obtain ⟨a0,n0,c0,k0,m0,e0,hbx9,hz,_⟩:=F 54 (od rfl) rfl
      rw [hf.eq]
      simp only [puts,Act.put,List.setIfInBounds_toArray,List.set_cons_zero,List.set_cons_succ]
      clear hf F
      generalize aT b=AT
      clear b
      go_wp2
      try simp only [Exit.inBlock,Exit.then]
      exact bodyPost_ret (results_it rfl _ (w.heap.size+1) rfl _ _ _ _ _ _ hbx9) rfl ⟨⟨a0,n0,c0,k0,m0,e0,rfl,hz.mono (by omega)⟩,hbA.trans hb⟩
end Go.Proofs.YtmdfbnlgfhjnoaaGreatDoor
