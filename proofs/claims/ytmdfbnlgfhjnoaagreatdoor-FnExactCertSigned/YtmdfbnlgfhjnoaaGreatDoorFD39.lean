import Derived.Test.YtmdfbnlgfhjnoaaGreatDoorFD36
import Derived.Test.YtmdfbnlgfhjnoaaGreatDoorFD38
set_option maxRecDepth 10000
set_option maxHeartbeats 8000000
set_option linter.unusedVariables false
namespace Go.Proofs.YtmdfbnlgfhjnoaaGreatDoor
open Go.RowKit Go.Sort
structure CeW (s:CES)(x:CE):Prop where
 ser:W64 x.ser
 frm:W64 x.frm
 til:W64 x.til
 room:W64 x.room
 uses:W64 x.uses
 need:W64 x.need
 nomap:W64 x.nomap
 noany:W64 x.noany
 key:W64 x.key.1∧U64 x.key.2.1∧W64 x.key.2.2
 iss:∀ k,k<s.n1→W64 (x.iss.getD k default).attr
 sub:∀ k,k<s.n2→W64 (x.sub.getD k default).attr
 nms:∀ k,k<s.n3→GeW (x.nms.getD k default)
 per:∀ k,k<s.n4→GeW (x.per.getD k default)
 den:∀ k,k<s.n5→GeW (x.den.getD k default)
 pol:∀ k,k<s.n6→W64 (x.pol.getD k 0)
 maps:∀ k,k<s.n7→W64 (x.maps.getD k (0,0)).1∧W64 (x.maps.getD k (0,0)).2
 ext:∀ k,k<s.n8→W64 (x.ext.getD k default).id
 l1:s.n1≤1000
 l2:s.n2≤1000
 l3:s.n3≤1000
 l4:s.n4≤1000
 l5:s.n5≤1000
 l6:s.n6≤1000
 l7:s.n7≤1000
 l8:s.n8≤1000
 l9:s.n9≤1000
def bodyitemr (s:CES)(x:CE)(L R G B:Nat):RSpec where
 m:=57
 n:=59
 slots:=[3,4,5,6,7,8,9,10,11,12,13,14,15,16,17,18,19,20,21,22,23,24,25,26,27,28,29,30,31,32,33,34,35,36,37,38,39,40,41,42,43,44,45,46,47,48,49,50,51,52,53,54,55,56,57,58,100056,100057,100058]
 kills:=[[],[],[],[],[],[],[],[],[],[],[],[],[],[],[],[],[],[],[],[],[],[],[],[],[],[],[],[],[],[],[],[],[],[],[],[],[],[],[],[],[],[],[],[],[],[],[],[],[],[],[],[],[],[],[],[],[],[],[56]]
 pres:=[[],[],[],[],[],[],[],[],[],[],[],[],[],[],[],[],[],[],[],[],[],[],[],[],[],[],[],[],[],[],[],[],[],[],[],[],[],[],[],[],[],[],[],[],[],[],[],[],[],[],[],[],[],[],[],[],[],[],[]]
 fact:=fun k v w=>match k with
  | 0=>v=.pointer (some ⟨G,0,none⟩)
  | 1=>v=.int .i64 x.ser
  | 2=>∃ a1 n1 c1 k1 m1 e1,v=.agg #[.int .i64 (numI x.ser).cls,.int .i64 (numI x.ser).tag,.bool (numI x.ser).cons,.slice a1 n1 c1,.slice k1 m1 e1]∧ItZ L R 6 w (numI x.ser) a1 n1 c1 k1 m1 e1∧L≤G∧G+1<R
  | 3=>v=.pointer (some ⟨G,1,none⟩)
  | 4=>v=.agg #[.slice s.a1 s.n1 s.c1]
  | 5=>∃ a2 n2 c2 k2 m2 e2,v=.agg #[.int .i64 (namI x.iss).cls,.int .i64 (namI x.iss).tag,.bool (namI x.iss).cons,.slice a2 n2 c2,.slice k2 m2 e2]∧ItZ L R 6 w (namI x.iss) a2 n2 c2 k2 m2 e2∧L≤G∧G+1<R
  | 6=>v=.pointer (some ⟨G,2,none⟩)
  | 7=>v=.agg #[.slice s.a2 s.n2 s.c2]
  | 8=>∃ a3 n3 c3 k3 m3 e3,v=.agg #[.int .i64 (namI x.sub).cls,.int .i64 (namI x.sub).tag,.bool (namI x.sub).cons,.slice a3 n3 c3,.slice k3 m3 e3]∧ItZ L R 6 w (namI x.sub) a3 n3 c3 k3 m3 e3∧L≤G∧G+1<R
  | 9=>v=.pointer (some ⟨G,3,none⟩)
  | 10=>v=.int .i64 x.frm
  | 11=>∃ a4 n4 c4 k4 m4 e4,v=.agg #[.int .i64 (numI x.frm).cls,.int .i64 (numI x.frm).tag,.bool (numI x.frm).cons,.slice a4 n4 c4,.slice k4 m4 e4]∧ItZ L R 6 w (numI x.frm) a4 n4 c4 k4 m4 e4∧L≤G∧G+1<R
  | 12=>v=.pointer (some ⟨G,4,none⟩)
  | 13=>v=.int .i64 x.til
  | 14=>∃ a5 n5 c5 k5 m5 e5,v=.agg #[.int .i64 (numI x.til).cls,.int .i64 (numI x.til).tag,.bool (numI x.til).cons,.slice a5 n5 c5,.slice k5 m5 e5]∧ItZ L R 6 w (numI x.til) a5 n5 c5 k5 m5 e5∧L≤G∧G+1<R
  | 15=>v=.pointer (some ⟨G,5,none⟩)
  | 16=>v=.agg #[.int .i64 x.key.1,.int .u64 x.key.2.1,.int .i64 x.key.2.2]
  | 17=>∃ a6 n6 c6 k6 m6 e6,v=.agg #[.int .i64 (kyI x.key).cls,.int .i64 (kyI x.key).tag,.bool (kyI x.key).cons,.slice a6 n6 c6,.slice k6 m6 e6]∧ItZ L R 6 w (kyI x.key) a6 n6 c6 k6 m6 e6∧L≤G∧G+1<R
  | 18=>v=.pointer (some ⟨G,8,none⟩)
  | 19=>v=.bool x.ca
  | 20=>∃ a7 n7 c7 k7 m7 e7,v=.agg #[.int .i64 (flgI x.ca).cls,.int .i64 (flgI x.ca).tag,.bool (flgI x.ca).cons,.slice a7 n7 c7,.slice k7 m7 e7]∧ItZ L R 6 w (flgI x.ca) a7 n7 c7 k7 m7 e7∧L≤G∧G+1<R
  | 21=>v=.pointer (some ⟨G,9,none⟩)
  | 22=>v=.int .i64 x.room
  | 23=>∃ a8 n8 c8 k8 m8 e8,v=.agg #[.int .i64 (numI x.room).cls,.int .i64 (numI x.room).tag,.bool (numI x.room).cons,.slice a8 n8 c8,.slice k8 m8 e8]∧ItZ L R 6 w (numI x.room) a8 n8 c8 k8 m8 e8∧L≤G∧G+1<R
  | 24=>v=.pointer (some ⟨G,10,none⟩)
  | 25=>v=.int .i64 x.uses
  | 26=>∃ a9 n9 c9 k9 m9 e9,v=.agg #[.int .i64 (numI x.uses).cls,.int .i64 (numI x.uses).tag,.bool (numI x.uses).cons,.slice a9 n9 c9,.slice k9 m9 e9]∧ItZ L R 6 w (numI x.uses) a9 n9 c9 k9 m9 e9∧L≤G∧G+1<R
  | 27=>v=.pointer (some ⟨G,11,none⟩)
  | 28=>v=.slice s.a3 s.n3 s.c3
  | 29=>∃ a10 n10 c10 k10 m10 e10,v=.agg #[.int .i64 (lstI (x.nms.map gneI)).cls,.int .i64 (lstI (x.nms.map gneI)).tag,.bool (lstI (x.nms.map gneI)).cons,.slice a10 n10 c10,.slice k10 m10 e10]∧ItZ L R 6 w (lstI (x.nms.map gneI)) a10 n10 c10 k10 m10 e10∧L≤G∧G+1<R
  | 30=>v=.pointer (some ⟨G,12,none⟩)
  | 31=>v=.slice s.a4 s.n4 s.c4
  | 32=>∃ a11 n11 c11 k11 m11 e11,v=.agg #[.int .i64 (lstI (x.per.map gneI)).cls,.int .i64 (lstI (x.per.map gneI)).tag,.bool (lstI (x.per.map gneI)).cons,.slice a11 n11 c11,.slice k11 m11 e11]∧ItZ L R 6 w (lstI (x.per.map gneI)) a11 n11 c11 k11 m11 e11∧L≤G∧G+1<R
  | 33=>v=.pointer (some ⟨G,13,none⟩)
  | 34=>v=.slice s.a5 s.n5 s.c5
  | 35=>∃ a12 n12 c12 k12 m12 e12,v=.agg #[.int .i64 (lstI (x.den.map gneI)).cls,.int .i64 (lstI (x.den.map gneI)).tag,.bool (lstI (x.den.map gneI)).cons,.slice a12 n12 c12,.slice k12 m12 e12]∧ItZ L R 6 w (lstI (x.den.map gneI)) a12 n12 c12 k12 m12 e12∧L≤G∧G+1<R
  | 36=>v=.pointer (some ⟨G,14,none⟩)
  | 37=>v=.slice s.a6 s.n6 s.c6
  | 38=>∃ a13 n13 c13 k13 m13 e13,v=.agg #[.int .i64 (lstI (x.pol.map numI)).cls,.int .i64 (lstI (x.pol.map numI)).tag,.bool (lstI (x.pol.map numI)).cons,.slice a13 n13 c13,.slice k13 m13 e13]∧ItZ L R 6 w (lstI (x.pol.map numI)) a13 n13 c13 k13 m13 e13∧L≤G∧G+1<R
  | 39=>v=.pointer (some ⟨G,15,none⟩)
  | 40=>v=.slice s.a7 s.n7 s.c7
  | 41=>∃ a14 n14 c14 k14 m14 e14,v=.agg #[.int .i64 (lstI (x.maps.map mapI)).cls,.int .i64 (lstI (x.maps.map mapI)).tag,.bool (lstI (x.maps.map mapI)).cons,.slice a14 n14 c14,.slice k14 m14 e14]∧ItZ L R 6 w (lstI (x.maps.map mapI)) a14 n14 c14 k14 m14 e14∧L≤G∧G+1<R
  | 42=>v=.pointer (some ⟨G,16,none⟩)
  | 43=>v=.int .i64 x.need
  | 44=>∃ a15 n15 c15 k15 m15 e15,v=.agg #[.int .i64 (numI x.need).cls,.int .i64 (numI x.need).tag,.bool (numI x.need).cons,.slice a15 n15 c15,.slice k15 m15 e15]∧ItZ L R 6 w (numI x.need) a15 n15 c15 k15 m15 e15∧L≤G∧G+1<R
  | 45=>v=.pointer (some ⟨G,17,none⟩)
  | 46=>v=.int .i64 x.nomap
  | 47=>∃ a16 n16 c16 k16 m16 e16,v=.agg #[.int .i64 (numI x.nomap).cls,.int .i64 (numI x.nomap).tag,.bool (numI x.nomap).cons,.slice a16 n16 c16,.slice k16 m16 e16]∧ItZ L R 6 w (numI x.nomap) a16 n16 c16 k16 m16 e16∧L≤G∧G+1<R
  | 48=>v=.pointer (some ⟨G,18,none⟩)
  | 49=>v=.int .i64 x.noany
  | 50=>∃ a17 n17 c17 k17 m17 e17,v=.agg #[.int .i64 (numI x.noany).cls,.int .i64 (numI x.noany).tag,.bool (numI x.noany).cons,.slice a17 n17 c17,.slice k17 m17 e17]∧ItZ L R 6 w (numI x.noany) a17 n17 c17 k17 m17 e17∧L≤G∧G+1<R
  | 51=>v=.pointer (some ⟨G,19,none⟩)
  | 52=>v=.slice s.a8 s.n8 s.c8
  | 53=>∃ a18 n18 c18 k18 m18 e18,v=.agg #[.int .i64 (lstI (x.ext.map exI)).cls,.int .i64 (lstI (x.ext.map exI)).tag,.bool (lstI (x.ext.map exI)).cons,.slice a18 n18 c18,.slice k18 m18 e18]∧ItZ L R 6 w (lstI (x.ext.map exI)) a18 n18 c18 k18 m18 e18∧L≤G∧G+1<R
  | 54=>∃ gr,v=.slice (some ⟨gr,0,none⟩) 18 18∧KidZ L R w gr 7 (ceK x)∧L≤G∧G+1<R
  | 55=>∃ a0 n0 c0 k0 m0 e0,v=.agg #[.int .i64 (boxI 1 (ceK x)).cls,.int .i64 (boxI 1 (ceK x)).tag,.bool (boxI 1 (ceK x)).cons,.slice a0 n0 c0,.slice k0 m0 e0]∧ItZ L R 7 w (boxI 1 (ceK x)) a0 n0 c0 k0 m0 e0∧L≤G∧G+1<R
  | 56=>∃ a0 n0 c0 k0 m0 e0,w.heap[(G+1)]? = some (.cells #[.int .i64 (boxI 1 (ceK x)).cls,.int .i64 (boxI 1 (ceK x)).tag,.bool (boxI 1 (ceK x)).cons,.slice a0 n0 c0,.slice k0 m0 e0] 75 (0,0))∧ItZ L R 7 w (boxI 1 (ceK x)) a0 n0 c0 k0 m0 e0∧L≤G∧G+1<R
  | 57=>w.heap[G]? = some (.cells #[.int .i64 x.ser,.slice s.a1 s.n1 s.c1,.slice s.a2 s.n2 s.c2,.int .i64 x.frm,.int .i64 x.til,.int .i64 x.key.1,.int .u64 x.key.2.1,.int .i64 x.key.2.2,.bool x.ca,.int .i64 x.room,.int .i64 x.uses,.slice s.a3 s.n3 s.c3,.slice s.a4 s.n4 s.c4,.slice s.a5 s.n5 s.c5,.slice s.a6 s.n6 s.c6,.slice s.a7 s.n7 s.c7,.int .i64 x.need,.int .i64 x.nomap,.int .i64 x.noany,.slice s.a8 s.n8 s.c8,.slice s.a9 s.n9 s.c9] 46 (0,0))
  | _=>w.heap[(G+1)]? = some (.cells #[.int .i64 0,.int .i64 0,.bool false,.slice none 0 0,.slice none 0 0] 75 (0,0))
theorem bodyitemr_stb (s:CES)(x:CE)(L R G B:Nat)(k:Nat)(hk:k<59):StB ((bodyitemr s x L R G (B)).fact k):=by
 match k,hk with
 | 0,_=>exact fun _ _ _ h _=>h
 | 1,_=>exact fun _ _ _ h _=>h
 | 2,_=>exact fun _ _ _ ⟨a1,n1,c1,k1,m1,e1,hv,q_0,q_1⟩ hb=>⟨a1,n1,c1,k1,m1,e1,hv,q_0.kept hb,q_1⟩
 | 3,_=>exact fun _ _ _ h _=>h
 | 4,_=>exact fun _ _ _ h _=>h
 | 5,_=>exact fun _ _ _ ⟨a2,n2,c2,k2,m2,e2,hv,q_0,q_1⟩ hb=>⟨a2,n2,c2,k2,m2,e2,hv,q_0.kept hb,q_1⟩
 | 6,_=>exact fun _ _ _ h _=>h
 | 7,_=>exact fun _ _ _ h _=>h
 | 8,_=>exact fun _ _ _ ⟨a3,n3,c3,k3,m3,e3,hv,q_0,q_1⟩ hb=>⟨a3,n3,c3,k3,m3,e3,hv,q_0.kept hb,q_1⟩
 | 9,_=>exact fun _ _ _ h _=>h
 | 10,_=>exact fun _ _ _ h _=>h
 | 11,_=>exact fun _ _ _ ⟨a4,n4,c4,k4,m4,e4,hv,q_0,q_1⟩ hb=>⟨a4,n4,c4,k4,m4,e4,hv,q_0.kept hb,q_1⟩
 | 12,_=>exact fun _ _ _ h _=>h
 | 13,_=>exact fun _ _ _ h _=>h
 | 14,_=>exact fun _ _ _ ⟨a5,n5,c5,k5,m5,e5,hv,q_0,q_1⟩ hb=>⟨a5,n5,c5,k5,m5,e5,hv,q_0.kept hb,q_1⟩
 | 15,_=>exact fun _ _ _ h _=>h
 | 16,_=>exact fun _ _ _ h _=>h
 | 17,_=>exact fun _ _ _ ⟨a6,n6,c6,k6,m6,e6,hv,q_0,q_1⟩ hb=>⟨a6,n6,c6,k6,m6,e6,hv,q_0.kept hb,q_1⟩
 | 18,_=>exact fun _ _ _ h _=>h
 | 19,_=>exact fun _ _ _ h _=>h
 | 20,_=>exact fun _ _ _ ⟨a7,n7,c7,k7,m7,e7,hv,q_0,q_1⟩ hb=>⟨a7,n7,c7,k7,m7,e7,hv,q_0.kept hb,q_1⟩
 | 21,_=>exact fun _ _ _ h _=>h
 | 22,_=>exact fun _ _ _ h _=>h
 | 23,_=>exact fun _ _ _ ⟨a8,n8,c8,k8,m8,e8,hv,q_0,q_1⟩ hb=>⟨a8,n8,c8,k8,m8,e8,hv,q_0.kept hb,q_1⟩
 | 24,_=>exact fun _ _ _ h _=>h
 | 25,_=>exact fun _ _ _ h _=>h
 | 26,_=>exact fun _ _ _ ⟨a9,n9,c9,k9,m9,e9,hv,q_0,q_1⟩ hb=>⟨a9,n9,c9,k9,m9,e9,hv,q_0.kept hb,q_1⟩
 | 27,_=>exact fun _ _ _ h _=>h
 | 28,_=>exact fun _ _ _ h _=>h
 | 29,_=>exact fun _ _ _ ⟨a10,n10,c10,k10,m10,e10,hv,q_0,q_1⟩ hb=>⟨a10,n10,c10,k10,m10,e10,hv,q_0.kept hb,q_1⟩
 | 30,_=>exact fun _ _ _ h _=>h
 | 31,_=>exact fun _ _ _ h _=>h
 | 32,_=>exact fun _ _ _ ⟨a11,n11,c11,k11,m11,e11,hv,q_0,q_1⟩ hb=>⟨a11,n11,c11,k11,m11,e11,hv,q_0.kept hb,q_1⟩
 | 33,_=>exact fun _ _ _ h _=>h
 | 34,_=>exact fun _ _ _ h _=>h
 | 35,_=>exact fun _ _ _ ⟨a12,n12,c12,k12,m12,e12,hv,q_0,q_1⟩ hb=>⟨a12,n12,c12,k12,m12,e12,hv,q_0.kept hb,q_1⟩
 | 36,_=>exact fun _ _ _ h _=>h
 | 37,_=>exact fun _ _ _ h _=>h
 | 38,_=>exact fun _ _ _ ⟨a13,n13,c13,k13,m13,e13,hv,q_0,q_1⟩ hb=>⟨a13,n13,c13,k13,m13,e13,hv,q_0.kept hb,q_1⟩
 | 39,_=>exact fun _ _ _ h _=>h
 | 40,_=>exact fun _ _ _ h _=>h
 | 41,_=>exact fun _ _ _ ⟨a14,n14,c14,k14,m14,e14,hv,q_0,q_1⟩ hb=>⟨a14,n14,c14,k14,m14,e14,hv,q_0.kept hb,q_1⟩
 | 42,_=>exact fun _ _ _ h _=>h
 | 43,_=>exact fun _ _ _ h _=>h
 | 44,_=>exact fun _ _ _ ⟨a15,n15,c15,k15,m15,e15,hv,q_0,q_1⟩ hb=>⟨a15,n15,c15,k15,m15,e15,hv,q_0.kept hb,q_1⟩
 | 45,_=>exact fun _ _ _ h _=>h
 | 46,_=>exact fun _ _ _ h _=>h
 | 47,_=>exact fun _ _ _ ⟨a16,n16,c16,k16,m16,e16,hv,q_0,q_1⟩ hb=>⟨a16,n16,c16,k16,m16,e16,hv,q_0.kept hb,q_1⟩
 | 48,_=>exact fun _ _ _ h _=>h
 | 49,_=>exact fun _ _ _ h _=>h
 | 50,_=>exact fun _ _ _ ⟨a17,n17,c17,k17,m17,e17,hv,q_0,q_1⟩ hb=>⟨a17,n17,c17,k17,m17,e17,hv,q_0.kept hb,q_1⟩
 | 51,_=>exact fun _ _ _ h _=>h
 | 52,_=>exact fun _ _ _ h _=>h
 | 53,_=>exact fun _ _ _ ⟨a18,n18,c18,k18,m18,e18,hv,q_0,q_1⟩ hb=>⟨a18,n18,c18,k18,m18,e18,hv,q_0.kept hb,q_1⟩
 | 54,_=>exact fun _ _ _ ⟨gr,hv,q_0,q_1⟩ hb=>⟨gr,hv,q_0.kept hb,q_1⟩
 | 55,_=>exact fun _ _ _ ⟨a0,n0,c0,k0,m0,e0,hv,q_0,q_1⟩ hb=>⟨a0,n0,c0,k0,m0,e0,hv,q_0.kept hb,q_1⟩
 | 56,_=>exact fun _ _ _ ⟨a0,n0,c0,k0,m0,e0,q_0,q_1,q_2⟩ hb=>⟨a0,n0,c0,k0,m0,e0,below_kept q_0 hb,q_1.kept hb,q_2⟩
 | 57,_=>exact fun _ _ _ q_0 hb=>below_kept q_0 hb
 | 58,_=>exact fun _ _ _ q_0 hb=>below_kept q_0 hb
 | k+59,hk=>omega
theorem bodyitemr_st56 (s:CES)(x:CE)(L R G B:Nat){W W2:World}{cs:Array Value}{fr:Nat × Nat}(hg:W.heap[(G+1)]? = some (.cells cs 75 fr))(ht:Touch ((G+1)) ((G+1)+1) W W2)(k:Nat)(hk:k<59)(hne:k≠56)(hkill:56∉(bodyitemr s x L R G (B)).kill k)(v:Value)(hfact:(bodyitemr s x L R G (B)).fact k v W):(bodyitemr s x L R G (B)).fact k v W2:=by
 match k,hk,hne,hkill,hfact with
 | 0,_,_,_,hq=>exact hq
 | 1,_,_,_,hq=>exact hq
 | 2,_,_,_,⟨a1,n1,c1,k1,m1,e1,hv,q_0,q_1⟩=>exact ⟨a1,n1,c1,k1,m1,e1,hv,q_0.touched ht (by omega),q_1⟩
 | 3,_,_,_,hq=>exact hq
 | 4,_,_,_,hq=>exact hq
 | 5,_,_,_,⟨a2,n2,c2,k2,m2,e2,hv,q_0,q_1⟩=>exact ⟨a2,n2,c2,k2,m2,e2,hv,q_0.touched ht (by omega),q_1⟩
 | 6,_,_,_,hq=>exact hq
 | 7,_,_,_,hq=>exact hq
 | 8,_,_,_,⟨a3,n3,c3,k3,m3,e3,hv,q_0,q_1⟩=>exact ⟨a3,n3,c3,k3,m3,e3,hv,q_0.touched ht (by omega),q_1⟩
 | 9,_,_,_,hq=>exact hq
 | 10,_,_,_,hq=>exact hq
 | 11,_,_,_,⟨a4,n4,c4,k4,m4,e4,hv,q_0,q_1⟩=>exact ⟨a4,n4,c4,k4,m4,e4,hv,q_0.touched ht (by omega),q_1⟩
 | 12,_,_,_,hq=>exact hq
 | 13,_,_,_,hq=>exact hq
 | 14,_,_,_,⟨a5,n5,c5,k5,m5,e5,hv,q_0,q_1⟩=>exact ⟨a5,n5,c5,k5,m5,e5,hv,q_0.touched ht (by omega),q_1⟩
 | 15,_,_,_,hq=>exact hq
 | 16,_,_,_,hq=>exact hq
 | 17,_,_,_,⟨a6,n6,c6,k6,m6,e6,hv,q_0,q_1⟩=>exact ⟨a6,n6,c6,k6,m6,e6,hv,q_0.touched ht (by omega),q_1⟩
 | 18,_,_,_,hq=>exact hq
 | 19,_,_,_,hq=>exact hq
 | 20,_,_,_,⟨a7,n7,c7,k7,m7,e7,hv,q_0,q_1⟩=>exact ⟨a7,n7,c7,k7,m7,e7,hv,q_0.touched ht (by omega),q_1⟩
 | 21,_,_,_,hq=>exact hq
 | 22,_,_,_,hq=>exact hq
 | 23,_,_,_,⟨a8,n8,c8,k8,m8,e8,hv,q_0,q_1⟩=>exact ⟨a8,n8,c8,k8,m8,e8,hv,q_0.touched ht (by omega),q_1⟩
 | 24,_,_,_,hq=>exact hq
 | 25,_,_,_,hq=>exact hq
 | 26,_,_,_,⟨a9,n9,c9,k9,m9,e9,hv,q_0,q_1⟩=>exact ⟨a9,n9,c9,k9,m9,e9,hv,q_0.touched ht (by omega),q_1⟩
 | 27,_,_,_,hq=>exact hq
 | 28,_,_,_,hq=>exact hq
 | 29,_,_,_,⟨a10,n10,c10,k10,m10,e10,hv,q_0,q_1⟩=>exact ⟨a10,n10,c10,k10,m10,e10,hv,q_0.touched ht (by omega),q_1⟩
 | 30,_,_,_,hq=>exact hq
 | 31,_,_,_,hq=>exact hq
 | 32,_,_,_,⟨a11,n11,c11,k11,m11,e11,hv,q_0,q_1⟩=>exact ⟨a11,n11,c11,k11,m11,e11,hv,q_0.touched ht (by omega),q_1⟩
 | 33,_,_,_,hq=>exact hq
 | 34,_,_,_,hq=>exact hq
 | 35,_,_,_,⟨a12,n12,c12,k12,m12,e12,hv,q_0,q_1⟩=>exact ⟨a12,n12,c12,k12,m12,e12,hv,q_0.touched ht (by omega),q_1⟩
 | 36,_,_,_,hq=>exact hq
 | 37,_,_,_,hq=>exact hq
 | 38,_,_,_,⟨a13,n13,c13,k13,m13,e13,hv,q_0,q_1⟩=>exact ⟨a13,n13,c13,k13,m13,e13,hv,q_0.touched ht (by omega),q_1⟩
 | 39,_,_,_,hq=>exact hq
 | 40,_,_,_,hq=>exact hq
 | 41,_,_,_,⟨a14,n14,c14,k14,m14,e14,hv,q_0,q_1⟩=>exact ⟨a14,n14,c14,k14,m14,e14,hv,q_0.touched ht (by omega),q_1⟩
 | 42,_,_,_,hq=>exact hq
 | 43,_,_,_,hq=>exact hq
 | 44,_,_,_,⟨a15,n15,c15,k15,m15,e15,hv,q_0,q_1⟩=>exact ⟨a15,n15,c15,k15,m15,e15,hv,q_0.touched ht (by omega),q_1⟩
 | 45,_,_,_,hq=>exact hq
 | 46,_,_,_,hq=>exact hq
 | 47,_,_,_,⟨a16,n16,c16,k16,m16,e16,hv,q_0,q_1⟩=>exact ⟨a16,n16,c16,k16,m16,e16,hv,q_0.touched ht (by omega),q_1⟩
 | 48,_,_,_,hq=>exact hq
 | 49,_,_,_,hq=>exact hq
 | 50,_,_,_,⟨a17,n17,c17,k17,m17,e17,hv,q_0,q_1⟩=>exact ⟨a17,n17,c17,k17,m17,e17,hv,q_0.touched ht (by omega),q_1⟩
 | 51,_,_,_,hq=>exact hq
 | 52,_,_,_,hq=>exact hq
 | 53,_,_,_,⟨a18,n18,c18,k18,m18,e18,hv,q_0,q_1⟩=>exact ⟨a18,n18,c18,k18,m18,e18,hv,q_0.touched ht (by omega),q_1⟩
 | 54,_,_,_,⟨gr,hv,q_0,q_1⟩=>exact ⟨gr,hv,q_0.touched ht (by omega),q_1⟩
 | 55,_,_,_,⟨a0,n0,c0,k0,m0,e0,hv,q_0,q_1⟩=>exact ⟨a0,n0,c0,k0,m0,e0,hv,q_0.touched ht (by omega),q_1⟩
 | 56,_,hne,_,_=>exact absurd rfl hne
 | 57,_,_,_,q_0=>exact box_box q_0 hg (by decide) ht
 | 58,_,_,hkill,_=>exact absurd (List.Mem.head _) hkill
 | k+59,hk,_,_,_=>omega
theorem bodyItem_R (s:CES)(x:CE)(L:Nat)(w:World)(hLw:L≤w.heap.size)(h:CER w s x)(hw:CeW s x)(hxl:ExL s.a8 s.n8 L w x.ext) :
  Calls Tryz.prog 46 #[.agg #[.int .i64 x.ser,.slice s.a1 s.n1 s.c1,.slice s.a2 s.n2 s.c2,.int .i64 x.frm,.int .i64 x.til,.int .i64 x.key.1,.int .u64 x.key.2.1,.int .i64 x.key.2.2,.bool x.ca,.int .i64 x.room,.int .i64 x.uses,.slice s.a3 s.n3 s.c3,.slice s.a4 s.n4 s.c4,.slice s.a5 s.n5 s.c5,.slice s.a6 s.n6 s.c6,.slice s.a7 s.n7 s.c7,.int .i64 x.need,.int .i64 x.nomap,.int .i64 x.noany,.slice s.a8 s.n8 s.c8,.slice s.a9 s.n9 s.c9]] w fun e w'=>ItR L w.heap.size 7 (boxI 1 (ceK x)) e w'∧Below w.heap.size w w':=by
 obtain ⟨w1,hw1⟩:∃ w1,w1=(w.alloc (.cells #[.int .i64 x.ser,.slice s.a1 s.n1 s.c1,.slice s.a2 s.n2 s.c2,.int .i64 x.frm,.int .i64 x.til,.int .i64 x.key.1,.int .u64 x.key.2.1,.int .i64 x.key.2.2,.bool x.ca,.int .i64 x.room,.int .i64 x.uses,.slice s.a3 s.n3 s.c3,.slice s.a4 s.n4 s.c4,.slice s.a5 s.n5 s.c5,.slice s.a6 s.n6 s.c6,.slice s.a7 s.n7 s.c7,.int .i64 x.need,.int .i64 x.nomap,.int .i64 x.noany,.slice s.a8 s.n8 s.c8,.slice s.a9 s.n9 s.c9] 46)).alloc (.cells #[.int .i64 0,.int .i64 0,.bool false,.slice none 0 0,.slice none 0 0] 75):=⟨_,rfl⟩
 have hbb:Below w.heap.size w w1:=by rw [hw1]; exact ((Below.refl _ _).alloc (Nat.le_refl _) _).alloc (by simp) _
 have HB1:Hid (_∧_):=two_blocks w (.cells #[.int .i64 x.ser,.slice s.a1 s.n1 s.c1,.slice s.a2 s.n2 s.c2,.int .i64 x.frm,.int .i64 x.til,.int .i64 x.key.1,.int .u64 x.key.2.1,.int .i64 x.key.2.2,.bool x.ca,.int .i64 x.room,.int .i64 x.uses,.slice s.a3 s.n3 s.c3,.slice s.a4 s.n4 s.c4,.slice s.a5 s.n5 s.c5,.slice s.a6 s.n6 s.c6,.slice s.a7 s.n7 s.c7,.int .i64 x.need,.int .i64 x.nomap,.int .i64 x.noany,.slice s.a8 s.n8 s.c8,.slice s.a9 s.n9 s.c9] 46) (.cells #[.int .i64 0,.int .i64 0,.bool false,.slice none 0 0,.slice none 0 0] 75)
 rw [← hw1] at HB1
 have hsz:w1.heap.size=w.heap.size+2:=by rw [hw1]; simp
 have HGB:L≤w.heap.size∧w.heap.size+1<w1.heap.size:=⟨hLw,by omega⟩
 have HLB:∀ W,Below w.heap.size w1 W→L≤W.heap.size:=fun W hW=>by have:=hW.size; omega
 have HBB:w.heap.size≤w1.heap.size:=hbb.size
 have HW:Hid (_=_):=hw1
 clear hw1
 go_enter Tryz.func46,Tryz.ntmps46
 go_upto_region 1 with fail
 rw [← HW.out]
 clear HW
 have stb:=bodyitemr_stb s x L w1.heap.size w.heap.size (w.heap.size)
 refine wp_region_ri (bodyitemr s x L w1.heap.size w.heap.size (w.heap.size)) [3,4,5,6,7,8,9,10,11,12,13,14,15,16,17,18,19,20,21,22,23,24,25,26,27,28,29,30,31,32,33,34,35,36,37,38,39,40,41,42,43,44,45,46,47,48,49,50,51,52,53,54,55,56,57,58] (w.heap.size) (fun a0=>a0.tmps.size=59∧aT a0 1=.pointer (some ⟨w.heap.size,0,none⟩)∧aT a0 2=.pointer (some ⟨(w.heap.size+1),0,none⟩)) (by kernel_rfl) rfl (by kernel_rfl) rfl ⟨rfl,rfl,rfl⟩ stb ?_ ?_ ?_
 ·exact vt2 (m:=57) (HB1.out.1) (HB1.out.2)
 ·rintro a0 ⟨hz,g1,g2⟩
  refine StepsRI.cons ?_ (StepsRI.cons ?_ (StepsRI.cons ?_ (StepsRI.cons ?_ (StepsRI.cons ?_ (StepsRI.cons ?_ (StepsRI.cons ?_ (StepsRI.cons ?_ (StepsRI.cons ?_ (StepsRI.cons ?_ (StepsRI.cons ?_ (StepsRI.cons ?_ (StepsRI.cons ?_ (StepsRI.cons ?_ (StepsRI.cons ?_ (StepsRI.cons ?_ (StepsRI.cons ?_ (StepsRI.cons ?_ (StepsRI.cons ?_ (StepsRI.cons ?_ (StepsRI.cons ?_ (StepsRI.cons ?_ (StepsRI.cons ?_ (StepsRI.cons ?_ (StepsRI.cons ?_ (StepsRI.cons ?_ (StepsRI.cons ?_ (StepsRI.cons ?_ (StepsRI.cons ?_ (StepsRI.cons ?_ (StepsRI.cons ?_ (StepsRI.cons ?_ (StepsRI.cons ?_ (StepsRI.cons ?_ (StepsRI.cons ?_ (StepsRI.cons ?_ (StepsRI.cons ?_ (StepsRI.cons ?_ (StepsRI.cons ?_ (StepsRI.cons ?_ (StepsRI.cons ?_ (StepsRI.cons ?_ (StepsRI.cons ?_ (StepsRI.cons ?_ (StepsRI.cons ?_ (StepsRI.cons ?_ (StepsRI.cons ?_ (StepsRI.cons ?_ (StepsRI.cons ?_ (StepsRI.cons ?_ (StepsRI.cons ?_ (StepsRI.cons ?_ (StepsRI.cons ?_ (StepsRI.cons ?_ (StepsRI.cons ?_ (StepsRI.cons ?_ (StepsRI.cons ?_ (StepsRI.nil)))))))))))))))))))))))))))))))))))))))))))))))))))))))))
  all_goals intro lQ b W hI hUN hED KQ hKQ
  ·exact opw_field 46 1 0 rfl _ ((hI.fr.same 1 (by decide)).trans g1) _ (by kernel_rfl) (hKQ.out _ _ (hI.pu 0 3 hz hUN HBB stb (Below.refl _ _) rfl))
  ·have f:=hI.ge 0 hED
   have hg:=(hI.vo 57)
   have hc:W.cell? ⟨w.heap.size,0,none⟩=some (.int .i64 x.ser):=qk hg rfl
   exact opw_load1 2 3 rfl _ f _ (by simp [Instr.loadAt,go_sem,hc]) (hKQ.out _ _ (hI.pu 1 4 hz hUN HBB stb (Below.refl _ _) rfl))
  ·have f0:aT b 4=.int .i64 x.ser:=hI.ge 1 hED
   refine opw_c1 101 4 Tryz.func101 f0 ?_
   refine (numberItem_R x.ser L W hw.ser).mono ?_
   rintro r W2 ⟨⟨a1,n1,c1,k1,m1,e1,rfl,hzI⟩,hb⟩
   exact ⟨_,rfl,hKQ.out _ _ (hI.pu 2 5 hz hUN HBB stb hb ⟨a1,n1,c1,k1,m1,e1,rfl,((hzI.mono hI.bel.size).le (by decide)),HGB⟩)⟩
  ·exact opw_field 46 1 1 rfl _ ((hI.fr.same 1 (by decide)).trans g1) _ (by kernel_rfl) (hKQ.out _ _ (hI.pu 3 6 hz hUN HBB stb (Below.refl _ _) rfl))
  ·have f:aT b 6=.pointer (some ⟨w.heap.size,1,none⟩):=hI.ge 3 hED
   have hg:=(hI.vo 57)
   have hc0:W.cell? ⟨w.heap.size,1,none⟩=some (.slice s.a1 s.n1 s.c1):=qk hg rfl
   exact opw_load1 40 6 rfl _ f _ (by simp [Instr.loadAt,go_sem,hc0]) (hKQ.out _ _ (hI.pu 4 7 hz hUN HBB stb (Below.refl _ _) rfl))
  ·have f0:aT b 7=.agg #[.slice s.a1 s.n1 s.c1]:=hI.ge 4 hED
   refine opw_c1 102 7 Tryz.func102 f0 ?_
   refine (nameItem_R s.a1 s.n1 s.c1 x.iss L W (HLB W hI.bel) (h.kept (hbb.trans hI.bel)).r1 hw.iss hw.l1).mono ?_
   rintro r W2 ⟨⟨a2,n2,c2,k2,m2,e2,rfl,hzI⟩,hb⟩
   exact ⟨_,rfl,hKQ.out _ _ (hI.pu 5 8 hz hUN HBB stb hb ⟨a2,n2,c2,k2,m2,e2,rfl,((hzI.mono hI.bel.size).le (by decide)),HGB⟩)⟩
  ·exact opw_field 46 1 2 rfl _ ((hI.fr.same 1 (by decide)).trans g1) _ (by kernel_rfl) (hKQ.out _ _ (hI.pu 6 9 hz hUN HBB stb (Below.refl _ _) rfl))
  ·have f:aT b 9=.pointer (some ⟨w.heap.size,2,none⟩):=hI.ge 6 hED
   have hg:=(hI.vo 57)
   have hc0:W.cell? ⟨w.heap.size,2,none⟩=some (.slice s.a2 s.n2 s.c2):=qk hg rfl
   exact opw_load1 40 9 rfl _ f _ (by simp [Instr.loadAt,go_sem,hc0]) (hKQ.out _ _ (hI.pu 7 10 hz hUN HBB stb (Below.refl _ _) rfl))
  ·have f0:aT b 10=.agg #[.slice s.a2 s.n2 s.c2]:=hI.ge 7 hED
   refine opw_c1 102 10 Tryz.func102 f0 ?_
   refine (nameItem_R s.a2 s.n2 s.c2 x.sub L W (HLB W hI.bel) (h.kept (hbb.trans hI.bel)).r2 hw.sub hw.l2).mono ?_
   rintro r W2 ⟨⟨a3,n3,c3,k3,m3,e3,rfl,hzI⟩,hb⟩
   exact ⟨_,rfl,hKQ.out _ _ (hI.pu 8 11 hz hUN HBB stb hb ⟨a3,n3,c3,k3,m3,e3,rfl,((hzI.mono hI.bel.size).le (by decide)),HGB⟩)⟩
  ·exact opw_field 46 1 3 rfl _ ((hI.fr.same 1 (by decide)).trans g1) _ (by kernel_rfl) (hKQ.out _ _ (hI.pu 9 12 hz hUN HBB stb (Below.refl _ _) rfl))
  ·have f:=hI.ge 9 hED
   have hg:=(hI.vo 57)
   have hc:W.cell? ⟨w.heap.size,3,none⟩=some (.int .i64 x.frm):=qk hg rfl
   exact opw_load1 2 12 rfl _ f _ (by simp [Instr.loadAt,go_sem,hc]) (hKQ.out _ _ (hI.pu 10 13 hz hUN HBB stb (Below.refl _ _) rfl))
  ·have f0:aT b 13=.int .i64 x.frm:=hI.ge 10 hED
   refine opw_c1 101 13 Tryz.func101 f0 ?_
   refine (numberItem_R x.frm L W hw.frm).mono ?_
   rintro r W2 ⟨⟨a4,n4,c4,k4,m4,e4,rfl,hzI⟩,hb⟩
   exact ⟨_,rfl,hKQ.out _ _ (hI.pu 11 14 hz hUN HBB stb hb ⟨a4,n4,c4,k4,m4,e4,rfl,((hzI.mono hI.bel.size).le (by decide)),HGB⟩)⟩
  ·exact opw_field 46 1 4 rfl _ ((hI.fr.same 1 (by decide)).trans g1) _ (by kernel_rfl) (hKQ.out _ _ (hI.pu 12 15 hz hUN HBB stb (Below.refl _ _) rfl))
  ·have f:=hI.ge 12 hED
   have hg:=(hI.vo 57)
   have hc:W.cell? ⟨w.heap.size,4,none⟩=some (.int .i64 x.til):=qk hg rfl
   exact opw_load1 2 15 rfl _ f _ (by simp [Instr.loadAt,go_sem,hc]) (hKQ.out _ _ (hI.pu 13 16 hz hUN HBB stb (Below.refl _ _) rfl))
  ·have f0:aT b 16=.int .i64 x.til:=hI.ge 13 hED
   refine opw_c1 101 16 Tryz.func101 f0 ?_
   refine (numberItem_R x.til L W hw.til).mono ?_
   rintro r W2 ⟨⟨a5,n5,c5,k5,m5,e5,rfl,hzI⟩,hb⟩
   exact ⟨_,rfl,hKQ.out _ _ (hI.pu 14 17 hz hUN HBB stb hb ⟨a5,n5,c5,k5,m5,e5,rfl,((hzI.mono hI.bel.size).le (by decide)),HGB⟩)⟩
  ·exact opw_field 46 1 5 rfl _ ((hI.fr.same 1 (by decide)).trans g1) _ (by kernel_rfl) (hKQ.out _ _ (hI.pu 15 18 hz hUN HBB stb (Below.refl _ _) rfl))
  ·have f:aT b 18=.pointer (some ⟨w.heap.size,5,none⟩):=hI.ge 15 hED
   have hg:=(hI.vo 57)
   have hc0:W.cell? ⟨w.heap.size,5,none⟩=some (.int .i64 x.key.1):=qk hg rfl
   have hc1:W.cell? ⟨w.heap.size,6,none⟩=some (.int .u64 x.key.2.1):=qk hg rfl
   have hc2:W.cell? ⟨w.heap.size,7,none⟩=some (.int .i64 x.key.2.2):=qk hg rfl
   exact opw_load1 41 18 rfl _ f _ (by simp [Instr.loadAt,go_sem,hc0,hc1,hc2]) (hKQ.out _ _ (hI.pu 16 19 hz hUN HBB stb (Below.refl _ _) rfl))
  ·have f0:aT b 19=.agg #[.int .i64 x.key.1,.int .u64 x.key.2.1,.int .i64 x.key.2.2]:=hI.ge 16 hED
   refine opw_c1 103 19 Tryz.func103 f0 ?_
   refine (pubItem_R x.key L W (HLB W hI.bel) hw.key.1 hw.key.2.1 hw.key.2.2).mono ?_
   rintro r W2 ⟨⟨a6,n6,c6,k6,m6,e6,rfl,hzI⟩,hb⟩
   exact ⟨_,rfl,hKQ.out _ _ (hI.pu 17 20 hz hUN HBB stb hb ⟨a6,n6,c6,k6,m6,e6,rfl,((hzI.mono hI.bel.size).le (by decide)),HGB⟩)⟩
  ·exact opw_field 46 1 6 rfl _ ((hI.fr.same 1 (by decide)).trans g1) _ (by kernel_rfl) (hKQ.out _ _ (hI.pu 18 21 hz hUN HBB stb (Below.refl _ _) rfl))
  ·have f:=hI.ge 18 hED
   have hg:=(hI.vo 57)
   have hc:W.cell? ⟨w.heap.size,8,none⟩=some (.bool x.ca):=qk hg rfl
   exact opw_load1 4 21 rfl _ f _ (by simp [Instr.loadAt,go_sem,hc]) (hKQ.out _ _ (hI.pu 19 22 hz hUN HBB stb (Below.refl _ _) rfl))
  ·have f0:aT b 22=.bool x.ca:=hI.ge 19 hED
   refine opw_c1 104 22 Tryz.func104 f0 ?_
   refine (flagItem_R x.ca W L (HLB W hI.bel)).mono ?_
   rintro r W2 ⟨⟨a7,n7,c7,k7,m7,e7,rfl,hzI⟩,hb⟩
   exact ⟨_,rfl,hKQ.out _ _ (hI.pu 20 23 hz hUN HBB stb hb ⟨a7,n7,c7,k7,m7,e7,rfl,((hzI.mono hI.bel.size).le (by decide)),HGB⟩)⟩
  ·exact opw_field 46 1 7 rfl _ ((hI.fr.same 1 (by decide)).trans g1) _ (by kernel_rfl) (hKQ.out _ _ (hI.pu 21 24 hz hUN HBB stb (Below.refl _ _) rfl))
  ·have f:=hI.ge 21 hED
   have hg:=(hI.vo 57)
   have hc:W.cell? ⟨w.heap.size,9,none⟩=some (.int .i64 x.room):=qk hg rfl
   exact opw_load1 2 24 rfl _ f _ (by simp [Instr.loadAt,go_sem,hc]) (hKQ.out _ _ (hI.pu 22 25 hz hUN HBB stb (Below.refl _ _) rfl))
  ·have f0:aT b 25=.int .i64 x.room:=hI.ge 22 hED
   refine opw_c1 101 25 Tryz.func101 f0 ?_
   refine (numberItem_R x.room L W hw.room).mono ?_
   rintro r W2 ⟨⟨a8,n8,c8,k8,m8,e8,rfl,hzI⟩,hb⟩
   exact ⟨_,rfl,hKQ.out _ _ (hI.pu 23 26 hz hUN HBB stb hb ⟨a8,n8,c8,k8,m8,e8,rfl,((hzI.mono hI.bel.size).le (by decide)),HGB⟩)⟩
  ·exact opw_field 46 1 8 rfl _ ((hI.fr.same 1 (by decide)).trans g1) _ (by kernel_rfl) (hKQ.out _ _ (hI.pu 24 27 hz hUN HBB stb (Below.refl _ _) rfl))
  ·have f:=hI.ge 24 hED
   have hg:=(hI.vo 57)
   have hc:W.cell? ⟨w.heap.size,10,none⟩=some (.int .i64 x.uses):=qk hg rfl
   exact opw_load1 2 27 rfl _ f _ (by simp [Instr.loadAt,go_sem,hc]) (hKQ.out _ _ (hI.pu 25 28 hz hUN HBB stb (Below.refl _ _) rfl))
  ·have f0:aT b 28=.int .i64 x.uses:=hI.ge 25 hED
   refine opw_c1 101 28 Tryz.func101 f0 ?_
   refine (numberItem_R x.uses L W hw.uses).mono ?_
   rintro r W2 ⟨⟨a9,n9,c9,k9,m9,e9,rfl,hzI⟩,hb⟩
   exact ⟨_,rfl,hKQ.out _ _ (hI.pu 26 29 hz hUN HBB stb hb ⟨a9,n9,c9,k9,m9,e9,rfl,((hzI.mono hI.bel.size).le (by decide)),HGB⟩)⟩
  ·exact opw_field 46 1 9 rfl _ ((hI.fr.same 1 (by decide)).trans g1) _ (by kernel_rfl) (hKQ.out _ _ (hI.pu 27 30 hz hUN HBB stb (Below.refl _ _) rfl))
  ·have f:=hI.ge 27 hED
   have hg:=(hI.vo 57)
   have hc:W.cell? ⟨w.heap.size,11,none⟩=some (.slice s.a3 s.n3 s.c3):=qk hg rfl
   exact opw_load1 42 30 rfl _ f _ (by simp [Instr.loadAt,go_sem,hc]) (hKQ.out _ _ (hI.pu 28 31 hz hUN HBB stb (Below.refl _ _) rfl))
  ·have f0:aT b 31=.slice s.a3 s.n3 s.c3:=hI.ge 28 hED
   refine opw_call 105 #[.tmp 31,.func 106] _ _ _ rfl Tryz.func105 (by kernel_rfl) rfl #[.slice s.a3 s.n3 s.c3,.func (Fn.func 106) #[] #[]] (by simp [ev,f0]; rfl) ?_
   refine (listItemGne_R s.a3 s.n3 s.c3 x.nms L W (HLB W hI.bel) (h.kept (hbb.trans hI.bel)).r3 hw.nms hw.l3).mono ?_
   rintro r W2 ⟨⟨a10,n10,c10,k10,m10,e10,rfl,hzI⟩,hb⟩
   exact ⟨_,rfl,hKQ.out _ _ (hI.pu 29 32 hz hUN HBB stb hb ⟨a10,n10,c10,k10,m10,e10,rfl,((hzI.mono hI.bel.size).le (by decide)),HGB⟩)⟩
  ·exact opw_field 46 1 10 rfl _ ((hI.fr.same 1 (by decide)).trans g1) _ (by kernel_rfl) (hKQ.out _ _ (hI.pu 30 33 hz hUN HBB stb (Below.refl _ _) rfl))
  ·have f:=hI.ge 30 hED
   have hg:=(hI.vo 57)
   have hc:W.cell? ⟨w.heap.size,12,none⟩=some (.slice s.a4 s.n4 s.c4):=qk hg rfl
   exact opw_load1 42 33 rfl _ f _ (by simp [Instr.loadAt,go_sem,hc]) (hKQ.out _ _ (hI.pu 31 34 hz hUN HBB stb (Below.refl _ _) rfl))
  ·have f0:aT b 34=.slice s.a4 s.n4 s.c4:=hI.ge 31 hED
   refine opw_call 105 #[.tmp 34,.func 106] _ _ _ rfl Tryz.func105 (by kernel_rfl) rfl #[.slice s.a4 s.n4 s.c4,.func (Fn.func 106) #[] #[]] (by simp [ev,f0]; rfl) ?_
   refine (listItemGne_R s.a4 s.n4 s.c4 x.per L W (HLB W hI.bel) (h.kept (hbb.trans hI.bel)).r4 hw.per hw.l4).mono ?_
   rintro r W2 ⟨⟨a11,n11,c11,k11,m11,e11,rfl,hzI⟩,hb⟩
   exact ⟨_,rfl,hKQ.out _ _ (hI.pu 32 35 hz hUN HBB stb hb ⟨a11,n11,c11,k11,m11,e11,rfl,((hzI.mono hI.bel.size).le (by decide)),HGB⟩)⟩
  ·exact opw_field 46 1 11 rfl _ ((hI.fr.same 1 (by decide)).trans g1) _ (by kernel_rfl) (hKQ.out _ _ (hI.pu 33 36 hz hUN HBB stb (Below.refl _ _) rfl))
  ·have f:=hI.ge 33 hED
   have hg:=(hI.vo 57)
   have hc:W.cell? ⟨w.heap.size,13,none⟩=some (.slice s.a5 s.n5 s.c5):=qk hg rfl
   exact opw_load1 42 36 rfl _ f _ (by simp [Instr.loadAt,go_sem,hc]) (hKQ.out _ _ (hI.pu 34 37 hz hUN HBB stb (Below.refl _ _) rfl))
  ·have f0:aT b 37=.slice s.a5 s.n5 s.c5:=hI.ge 34 hED
   refine opw_call 105 #[.tmp 37,.func 106] _ _ _ rfl Tryz.func105 (by kernel_rfl) rfl #[.slice s.a5 s.n5 s.c5,.func (Fn.func 106) #[] #[]] (by simp [ev,f0]; rfl) ?_
   refine (listItemGne_R s.a5 s.n5 s.c5 x.den L W (HLB W hI.bel) (h.kept (hbb.trans hI.bel)).r5 hw.den hw.l5).mono ?_
   rintro r W2 ⟨⟨a12,n12,c12,k12,m12,e12,rfl,hzI⟩,hb⟩
   exact ⟨_,rfl,hKQ.out _ _ (hI.pu 35 38 hz hUN HBB stb hb ⟨a12,n12,c12,k12,m12,e12,rfl,((hzI.mono hI.bel.size).le (by decide)),HGB⟩)⟩
  ·exact opw_field 46 1 12 rfl _ ((hI.fr.same 1 (by decide)).trans g1) _ (by kernel_rfl) (hKQ.out _ _ (hI.pu 36 39 hz hUN HBB stb (Below.refl _ _) rfl))
  ·have f:=hI.ge 36 hED
   have hg:=(hI.vo 57)
   have hc:W.cell? ⟨w.heap.size,14,none⟩=some (.slice s.a6 s.n6 s.c6):=qk hg rfl
   exact opw_load1 29 39 rfl _ f _ (by simp [Instr.loadAt,go_sem,hc]) (hKQ.out _ _ (hI.pu 37 40 hz hUN HBB stb (Below.refl _ _) rfl))
  ·have f0:aT b 40=.slice s.a6 s.n6 s.c6:=hI.ge 37 hED
   refine opw_call 107 #[.tmp 40,.func 101] _ _ _ rfl Tryz.func107 (by kernel_rfl) rfl #[.slice s.a6 s.n6 s.c6,.func (Fn.func 101) #[] #[]] (by simp [ev,f0]; rfl) ?_
   refine (listItemNum_R s.a6 s.n6 s.c6 x.pol L W (HLB W hI.bel) (h.kept (hbb.trans hI.bel)).r6 hw.pol hw.l6).mono ?_
   rintro r W2 ⟨⟨a13,n13,c13,k13,m13,e13,rfl,hzI⟩,hb⟩
   exact ⟨_,rfl,hKQ.out _ _ (hI.pu 38 41 hz hUN HBB stb hb ⟨a13,n13,c13,k13,m13,e13,rfl,((hzI.mono hI.bel.size).le (by decide)),HGB⟩)⟩
  ·exact opw_field 46 1 13 rfl _ ((hI.fr.same 1 (by decide)).trans g1) _ (by kernel_rfl) (hKQ.out _ _ (hI.pu 39 42 hz hUN HBB stb (Below.refl _ _) rfl))
  ·have f:=hI.ge 39 hED
   have hg:=(hI.vo 57)
   have hc:W.cell? ⟨w.heap.size,15,none⟩=some (.slice s.a7 s.n7 s.c7):=qk hg rfl
   exact opw_load1 43 42 rfl _ f _ (by simp [Instr.loadAt,go_sem,hc]) (hKQ.out _ _ (hI.pu 40 43 hz hUN HBB stb (Below.refl _ _) rfl))
  ·have f0:aT b 43=.slice s.a7 s.n7 s.c7:=hI.ge 40 hED
   refine opw_call 108 #[.tmp 43,.func 109] _ _ _ rfl Tryz.func108 (by kernel_rfl) rfl #[.slice s.a7 s.n7 s.c7,.func (Fn.func 109) #[] #[]] (by simp [ev,f0]; rfl) ?_
   refine (listItemMap_R s.a7 s.n7 s.c7 x.maps L W (HLB W hI.bel) (h.kept (hbb.trans hI.bel)).r7 hw.maps hw.l7).mono ?_
   rintro r W2 ⟨⟨a14,n14,c14,k14,m14,e14,rfl,hzI⟩,hb⟩
   exact ⟨_,rfl,hKQ.out _ _ (hI.pu 41 44 hz hUN HBB stb hb ⟨a14,n14,c14,k14,m14,e14,rfl,((hzI.mono hI.bel.size).le (by decide)),HGB⟩)⟩
  ·exact opw_field 46 1 14 rfl _ ((hI.fr.same 1 (by decide)).trans g1) _ (by kernel_rfl) (hKQ.out _ _ (hI.pu 42 45 hz hUN HBB stb (Below.refl _ _) rfl))
  ·have f:=hI.ge 42 hED
   have hg:=(hI.vo 57)
   have hc:W.cell? ⟨w.heap.size,16,none⟩=some (.int .i64 x.need):=qk hg rfl
   exact opw_load1 2 45 rfl _ f _ (by simp [Instr.loadAt,go_sem,hc]) (hKQ.out _ _ (hI.pu 43 46 hz hUN HBB stb (Below.refl _ _) rfl))
  ·have f0:aT b 46=.int .i64 x.need:=hI.ge 43 hED
   refine opw_c1 101 46 Tryz.func101 f0 ?_
   refine (numberItem_R x.need L W hw.need).mono ?_
   rintro r W2 ⟨⟨a15,n15,c15,k15,m15,e15,rfl,hzI⟩,hb⟩
   exact ⟨_,rfl,hKQ.out _ _ (hI.pu 44 47 hz hUN HBB stb hb ⟨a15,n15,c15,k15,m15,e15,rfl,((hzI.mono hI.bel.size).le (by decide)),HGB⟩)⟩
  ·exact opw_field 46 1 15 rfl _ ((hI.fr.same 1 (by decide)).trans g1) _ (by kernel_rfl) (hKQ.out _ _ (hI.pu 45 48 hz hUN HBB stb (Below.refl _ _) rfl))
  ·have f:=hI.ge 45 hED
   have hg:=(hI.vo 57)
   have hc:W.cell? ⟨w.heap.size,17,none⟩=some (.int .i64 x.nomap):=qk hg rfl
   exact opw_load1 2 48 rfl _ f _ (by simp [Instr.loadAt,go_sem,hc]) (hKQ.out _ _ (hI.pu 46 49 hz hUN HBB stb (Below.refl _ _) rfl))
  ·have f0:aT b 49=.int .i64 x.nomap:=hI.ge 46 hED
   refine opw_c1 101 49 Tryz.func101 f0 ?_
   refine (numberItem_R x.nomap L W hw.nomap).mono ?_
   rintro r W2 ⟨⟨a16,n16,c16,k16,m16,e16,rfl,hzI⟩,hb⟩
   exact ⟨_,rfl,hKQ.out _ _ (hI.pu 47 50 hz hUN HBB stb hb ⟨a16,n16,c16,k16,m16,e16,rfl,((hzI.mono hI.bel.size).le (by decide)),HGB⟩)⟩
  ·exact opw_field 46 1 16 rfl _ ((hI.fr.same 1 (by decide)).trans g1) _ (by kernel_rfl) (hKQ.out _ _ (hI.pu 48 51 hz hUN HBB stb (Below.refl _ _) rfl))
  ·have f:=hI.ge 48 hED
   have hg:=(hI.vo 57)
   have hc:W.cell? ⟨w.heap.size,18,none⟩=some (.int .i64 x.noany):=qk hg rfl
   exact opw_load1 2 51 rfl _ f _ (by simp [Instr.loadAt,go_sem,hc]) (hKQ.out _ _ (hI.pu 49 52 hz hUN HBB stb (Below.refl _ _) rfl))
  ·have f0:aT b 52=.int .i64 x.noany:=hI.ge 49 hED
   refine opw_c1 101 52 Tryz.func101 f0 ?_
   refine (numberItem_R x.noany L W hw.noany).mono ?_
   rintro r W2 ⟨⟨a17,n17,c17,k17,m17,e17,rfl,hzI⟩,hb⟩
   exact ⟨_,rfl,hKQ.out _ _ (hI.pu 50 53 hz hUN HBB stb hb ⟨a17,n17,c17,k17,m17,e17,rfl,((hzI.mono hI.bel.size).le (by decide)),HGB⟩)⟩
  ·exact opw_field 46 1 17 rfl _ ((hI.fr.same 1 (by decide)).trans g1) _ (by kernel_rfl) (hKQ.out _ _ (hI.pu 51 54 hz hUN HBB stb (Below.refl _ _) rfl))
  ·have f:=hI.ge 51 hED
   have hg:=(hI.vo 57)
   have hc:W.cell? ⟨w.heap.size,19,none⟩=some (.slice s.a8 s.n8 s.c8):=qk hg rfl
   exact opw_load1 44 54 rfl _ f _ (by simp [Instr.loadAt,go_sem,hc]) (hKQ.out _ _ (hI.pu 52 55 hz hUN HBB stb (Below.refl _ _) rfl))
  ·have f0:aT b 55=.slice s.a8 s.n8 s.c8:=hI.ge 52 hED
   refine opw_call 110 #[.tmp 55,.func 111] _ _ _ rfl Tryz.func110 (by kernel_rfl) rfl #[.slice s.a8 s.n8 s.c8,.func (Fn.func 111) #[] #[]] (by simp [ev,f0]; rfl) ?_
   refine (listItemExi_R s.a8 s.n8 s.c8 x.ext L W (HLB W hI.bel) (h.kept (hbb.trans hI.bel)).r8 hw.ext (hxl.kept h.r8 (hbb.trans hI.bel)) hw.l8).mono ?_
   rintro r W2 ⟨⟨a18,n18,c18,k18,m18,e18,rfl,hzI⟩,hb⟩
   exact ⟨_,rfl,hKQ.out _ _ (hI.pu 53 56 hz hUN HBB stb hb ⟨a18,n18,c18,k18,m18,e18,rfl,((hzI.mono hI.bel.size).le (by decide)),HGB⟩)⟩
  ·obtain ⟨a1,n1,c1,k1,m1,e1,f1,o1,_⟩:=hI.ge 2 hED
   replace f1:aT b 5=_:=f1
   obtain ⟨a2,n2,c2,k2,m2,e2,f2,o2,_⟩:=hI.ge 5 hED
   replace f2:aT b 8=_:=f2
   obtain ⟨a3,n3,c3,k3,m3,e3,f3,o3,_⟩:=hI.ge 8 hED
   replace f3:aT b 11=_:=f3
   obtain ⟨a4,n4,c4,k4,m4,e4,f4,o4,_⟩:=hI.ge 11 hED
   replace f4:aT b 14=_:=f4
   obtain ⟨a5,n5,c5,k5,m5,e5,f5,o5,_⟩:=hI.ge 14 hED
   replace f5:aT b 17=_:=f5
   obtain ⟨a6,n6,c6,k6,m6,e6,f6,o6,_⟩:=hI.ge 17 hED
   replace f6:aT b 20=_:=f6
   obtain ⟨a7,n7,c7,k7,m7,e7,f7,o7,_⟩:=hI.ge 20 hED
   replace f7:aT b 23=_:=f7
   obtain ⟨a8,n8,c8,k8,m8,e8,f8,o8,_⟩:=hI.ge 23 hED
   replace f8:aT b 26=_:=f8
   obtain ⟨a9,n9,c9,k9,m9,e9,f9,o9,_⟩:=hI.ge 26 hED
   replace f9:aT b 29=_:=f9
   obtain ⟨a10,n10,c10,k10,m10,e10,f10,o10,_⟩:=hI.ge 29 hED
   replace f10:aT b 32=_:=f10
   obtain ⟨a11,n11,c11,k11,m11,e11,f11,o11,_⟩:=hI.ge 32 hED
   replace f11:aT b 35=_:=f11
   obtain ⟨a12,n12,c12,k12,m12,e12,f12,o12,_⟩:=hI.ge 35 hED
   replace f12:aT b 38=_:=f12
   obtain ⟨a13,n13,c13,k13,m13,e13,f13,o13,_⟩:=hI.ge 38 hED
   replace f13:aT b 41=_:=f13
   obtain ⟨a14,n14,c14,k14,m14,e14,f14,o14,_⟩:=hI.ge 41 hED
   replace f14:aT b 44=_:=f14
   obtain ⟨a15,n15,c15,k15,m15,e15,f15,o15,_⟩:=hI.ge 44 hED
   replace f15:aT b 47=_:=f15
   obtain ⟨a16,n16,c16,k16,m16,e16,f16,o16,_⟩:=hI.ge 47 hED
   replace f16:aT b 50=_:=f16
   obtain ⟨a17,n17,c17,k17,m17,e17,f17,o17,_⟩:=hI.ge 50 hED
   replace f17:aT b 53=_:=f17
   obtain ⟨a18,n18,c18,k18,m18,e18,f18,o18,_⟩:=hI.ge 53 hED
   replace f18:aT b 56=_:=f18
   refine opw_buildSliceT _ 18 _ rfl #[(0,.agg #[.int .i64 (numI x.ser).cls,.int .i64 (numI x.ser).tag,.bool (numI x.ser).cons,.slice a1 n1 c1,.slice k1 m1 e1]),(1,.agg #[.int .i64 (namI x.iss).cls,.int .i64 (namI x.iss).tag,.bool (namI x.iss).cons,.slice a2 n2 c2,.slice k2 m2 e2]),(2,.agg #[.int .i64 (namI x.sub).cls,.int .i64 (namI x.sub).tag,.bool (namI x.sub).cons,.slice a3 n3 c3,.slice k3 m3 e3]),(3,.agg #[.int .i64 (numI x.frm).cls,.int .i64 (numI x.frm).tag,.bool (numI x.frm).cons,.slice a4 n4 c4,.slice k4 m4 e4]),(4,.agg #[.int .i64 (numI x.til).cls,.int .i64 (numI x.til).tag,.bool (numI x.til).cons,.slice a5 n5 c5,.slice k5 m5 e5]),(5,.agg #[.int .i64 (kyI x.key).cls,.int .i64 (kyI x.key).tag,.bool (kyI x.key).cons,.slice a6 n6 c6,.slice k6 m6 e6]),(6,.agg #[.int .i64 (flgI x.ca).cls,.int .i64 (flgI x.ca).tag,.bool (flgI x.ca).cons,.slice a7 n7 c7,.slice k7 m7 e7]),(7,.agg #[.int .i64 (numI x.room).cls,.int .i64 (numI x.room).tag,.bool (numI x.room).cons,.slice a8 n8 c8,.slice k8 m8 e8]),(8,.agg #[.int .i64 (numI x.uses).cls,.int .i64 (numI x.uses).tag,.bool (numI x.uses).cons,.slice a9 n9 c9,.slice k9 m9 e9]),(9,.agg #[.int .i64 (lstI (x.nms.map gneI)).cls,.int .i64 (lstI (x.nms.map gneI)).tag,.bool (lstI (x.nms.map gneI)).cons,.slice a10 n10 c10,.slice k10 m10 e10]),(10,.agg #[.int .i64 (lstI (x.per.map gneI)).cls,.int .i64 (lstI (x.per.map gneI)).tag,.bool (lstI (x.per.map gneI)).cons,.slice a11 n11 c11,.slice k11 m11 e11]),(11,.agg #[.int .i64 (lstI (x.den.map gneI)).cls,.int .i64 (lstI (x.den.map gneI)).tag,.bool (lstI (x.den.map gneI)).cons,.slice a12 n12 c12,.slice k12 m12 e12]),(12,.agg #[.int .i64 (lstI (x.pol.map numI)).cls,.int .i64 (lstI (x.pol.map numI)).tag,.bool (lstI (x.pol.map numI)).cons,.slice a13 n13 c13,.slice k13 m13 e13]),(13,.agg #[.int .i64 (lstI (x.maps.map mapI)).cls,.int .i64 (lstI (x.maps.map mapI)).tag,.bool (lstI (x.maps.map mapI)).cons,.slice a14 n14 c14,.slice k14 m14 e14]),(14,.agg #[.int .i64 (numI x.need).cls,.int .i64 (numI x.need).tag,.bool (numI x.need).cons,.slice a15 n15 c15,.slice k15 m15 e15]),(15,.agg #[.int .i64 (numI x.nomap).cls,.int .i64 (numI x.nomap).tag,.bool (numI x.nomap).cons,.slice a16 n16 c16,.slice k16 m16 e16]),(16,.agg #[.int .i64 (numI x.noany).cls,.int .i64 (numI x.noany).tag,.bool (numI x.noany).cons,.slice a17 n17 c17,.slice k17 m17 e17]),(17,.agg #[.int .i64 (lstI (x.ext.map exI)).cls,.int .i64 (lstI (x.ext.map exI)).tag,.bool (lstI (x.ext.map exI)).cons,.slice a18 n18 c18,.slice k18 m18 e18])] (by simp [ev,f1,f2,f3,f4,f5,f6,f7,f8,f9,f10,f11,f12,f13,f14,f15,f16,f17,f18]) (.slice (some ⟨W.heap.size,0,none⟩) 18 18) (W.alloc (.cells #[.int .i64 (numI x.ser).cls,.int .i64 (numI x.ser).tag,.bool (numI x.ser).cons,.slice a1 n1 c1,.slice k1 m1 e1,.int .i64 (namI x.iss).cls,.int .i64 (namI x.iss).tag,.bool (namI x.iss).cons,.slice a2 n2 c2,.slice k2 m2 e2,.int .i64 (namI x.sub).cls,.int .i64 (namI x.sub).tag,.bool (namI x.sub).cons,.slice a3 n3 c3,.slice k3 m3 e3,.int .i64 (numI x.frm).cls,.int .i64 (numI x.frm).tag,.bool (numI x.frm).cons,.slice a4 n4 c4,.slice k4 m4 e4,.int .i64 (numI x.til).cls,.int .i64 (numI x.til).tag,.bool (numI x.til).cons,.slice a5 n5 c5,.slice k5 m5 e5,.int .i64 (kyI x.key).cls,.int .i64 (kyI x.key).tag,.bool (kyI x.key).cons,.slice a6 n6 c6,.slice k6 m6 e6,.int .i64 (flgI x.ca).cls,.int .i64 (flgI x.ca).tag,.bool (flgI x.ca).cons,.slice a7 n7 c7,.slice k7 m7 e7,.int .i64 (numI x.room).cls,.int .i64 (numI x.room).tag,.bool (numI x.room).cons,.slice a8 n8 c8,.slice k8 m8 e8,.int .i64 (numI x.uses).cls,.int .i64 (numI x.uses).tag,.bool (numI x.uses).cons,.slice a9 n9 c9,.slice k9 m9 e9,.int .i64 (lstI (x.nms.map gneI)).cls,.int .i64 (lstI (x.nms.map gneI)).tag,.bool (lstI (x.nms.map gneI)).cons,.slice a10 n10 c10,.slice k10 m10 e10,.int .i64 (lstI (x.per.map gneI)).cls,.int .i64 (lstI (x.per.map gneI)).tag,.bool (lstI (x.per.map gneI)).cons,.slice a11 n11 c11,.slice k11 m11 e11,.int .i64 (lstI (x.den.map gneI)).cls,.int .i64 (lstI (x.den.map gneI)).tag,.bool (lstI (x.den.map gneI)).cons,.slice a12 n12 c12,.slice k12 m12 e12,.int .i64 (lstI (x.pol.map numI)).cls,.int .i64 (lstI (x.pol.map numI)).tag,.bool (lstI (x.pol.map numI)).cons,.slice a13 n13 c13,.slice k13 m13 e13,.int .i64 (lstI (x.maps.map mapI)).cls,.int .i64 (lstI (x.maps.map mapI)).tag,.bool (lstI (x.maps.map mapI)).cons,.slice a14 n14 c14,.slice k14 m14 e14,.int .i64 (numI x.need).cls,.int .i64 (numI x.need).tag,.bool (numI x.need).cons,.slice a15 n15 c15,.slice k15 m15 e15,.int .i64 (numI x.nomap).cls,.int .i64 (numI x.nomap).tag,.bool (numI x.nomap).cons,.slice a16 n16 c16,.slice k16 m16 e16,.int .i64 (numI x.noany).cls,.int .i64 (numI x.noany).tag,.bool (numI x.noany).cons,.slice a17 n17 c17,.slice k17 m17 e17,.int .i64 (lstI (x.ext.map exI)).cls,.int .i64 (lstI (x.ext.map exI)).tag,.bool (lstI (x.ext.map exI)).cons,.slice a18 n18 c18,.slice k18 m18 e18] 75)) (by kernel_rfl) ?_
   exact hKQ.out _ _ (hI.pu 54 57 hz hUN HBB stb ((Below.refl _ _).alloc (Nat.le_refl _) _) ⟨W.heap.size,rfl,kidZ_n18 hI.bel.size o1 o2 o3 o4 o5 o6 o7 o8 o9 o10 o11 o12 o13 o14 o15 o16 o17 o18,HGB⟩)
  ·obtain ⟨gr,f0,o0,_⟩:=hI.ge 54 hED
   replace f0:aT b 57=_:=f0
   refine opw_call 59 #[.const (.int .i64 1),.tmp 57] _ _ _ rfl Tryz.func59 (by kernel_rfl) rfl #[.int .i64 1,.slice (some ⟨gr,0,none⟩) 18 18] (by simp [ev,evc,f0]) ?_
   refine (ownItem_R 1 o0 rfl).mono ?_
   rintro r W2 ⟨⟨a0,n0,c0,k0,m0,e0,rfl,hzI⟩,hb⟩
   exact ⟨_,rfl,hKQ.out _ _ (hI.pu 55 58 hz hUN HBB stb hb ⟨a0,n0,c0,k0,m0,e0,rfl,hzI,HGB⟩)⟩
  ·have hgb:=(hI.vot1 58 56 (od rfl) (od rfl) hUN rfl)
   have fb:=((hI.fr.same 2 (by decide)).trans g2)
   have f:=hI.ge 55 hED
   obtain ⟨a0,n0,c0,k0,m0,e0,f,o_0,o_1⟩:=f
   refine wp_store_row 75 _ _ rfl ((w.heap.size+1)) _ fb f 75 _ hgb (by kernel_rfl) rfl (by simp [Value.oneCell']) ?_
   have ht:=setRow_touch W ((w.heap.size+1)) #[.int .i64 (boxI 1 (ceK x)).cls,.int .i64 (boxI 1 (ceK x)).tag,.bool (boxI 1 (ceK x)).cons,.slice a0 n0 c0,.slice k0 m0 e0]
   exact hKQ.out _ _ (hI.store 56 (fun j hj=>by cases hj) (hI.bel.trans (ht.below (by first | exact HGE2 | omega) (Nat.le_trans HBB hI.bel.size))) (bodyitemr_st56 s x L w1.heap.size w.heap.size (w.heap.size) hgb ht) ⟨a0,n0,c0,k0,m0,e0,(setRow_heap W ((w.heap.size+1)) _ _ _ _ hgb),o_0.touched ht (by omega),o_1⟩)
 ·intro b W hf hb F
  clear stb
  obtain ⟨a0,n0,c0,k0,m0,e0,hbx,hz,_⟩:=F 56 (od rfl) rfl
  rw [hf.eq]
  simp only [puts,Act.put,List.setIfInBounds_toArray,List.set_cons_zero,List.set_cons_succ]
  clear hf F
  generalize aT b=AT
  clear b
  go_wp2
  try simp only [Exit.inBlock,Exit.then]
  exact bodyPost_ret (results_it rfl _ (w.heap.size+1) rfl _ _ _ _ _ _ hbx) rfl ⟨⟨a0,n0,c0,k0,m0,e0,rfl,hz.mono hbb.size⟩,hbb.trans hb⟩
end Go.Proofs.YtmdfbnlgfhjnoaaGreatDoor
