import Derived.Test.YtnmplldhdfingaaGreatDoorFG40
import Derived.Test.YtnmplldhdfingaaGreatDoorFG41
set_option maxRecDepth 10000
set_option maxHeartbeats 8000000
set_option linter.unusedVariables false
namespace Go.Proofs.YtnmplldhdfingaaGreatDoor
open Go.RowKit Go.Sort
def ci3r (y:GP)(an:Option Addr)(nn cn:Nat)(ao:Option Addr)(kq cc:Nat)(es0:List It)(Q R G B:Nat):RSpec where
 m:=18
 n:=21
 slots:=[19,20,21,22,23,24,25,26,27,28,29,30,31,32,33,34,35,3,100018,100019,3]
 kills:=[[],[],[],[],[],[],[],[],[],[],[],[],[],[],[],[],[],[],[],[16],[17]]
 pres:=[[],[],[],[],[],[],[],[],[],[],[],[],[],[],[],[],[0],[16],[],[],[]]
 fact:=fun k v w=>match k with
  | 0=>v=.slice ao kq cc
  | 1=>v=.pointer (some ⟨G,0,none⟩)
  | 2=>v=.agg #[.slice an nn cn]
  | 3=>∃ a1 n1 c1 k1 m1 e1,v=.agg #[.int .i64 (namI y.parts).cls,.int .i64 (namI y.parts).tag,.bool (namI y.parts).cons,.slice a1 n1 c1,.slice k1 m1 e1]∧ItZ 0 Q 4 w (namI y.parts) a1 n1 c1 k1 m1 e1
  | 4=>v=.pointer (some ⟨G,1,none⟩)
  | 5=>v=.int .i64 y.ser
  | 6=>∃ a2 n2 c2 k2 m2 e2,v=.agg #[.int .i64 (numI y.ser).cls,.int .i64 (numI y.ser).tag,.bool (numI y.ser).cons,.slice a2 n2 c2,.slice k2 m2 e2]∧ItZ 0 Q 4 w (numI y.ser) a2 n2 c2 k2 m2 e2
  | 7=>v=.pointer (some ⟨G,2,none⟩)
  | 8=>v=.int .i64 y.tm
  | 9=>∃ a3 n3 c3 k3 m3 e3,v=.agg #[.int .i64 (numI y.tm).cls,.int .i64 (numI y.tm).tag,.bool (numI y.tm).cons,.slice a3 n3 c3,.slice k3 m3 e3]∧ItZ 0 Q 4 w (numI y.tm) a3 n3 c3 k3 m3 e3
  | 10=>v=.pointer (some ⟨G,3,none⟩)
  | 11=>v=.int .i64 y.rs
  | 12=>∃ a4 n4 c4 k4 m4 e4,v=.agg #[.int .i64 (numI y.rs).cls,.int .i64 (numI y.rs).tag,.bool (numI y.rs).cons,.slice a4 n4 c4,.slice k4 m4 e4]∧ItZ 0 Q 4 w (numI y.rs) a4 n4 c4 k4 m4 e4
  | 13=>∃ gr,v=.slice (some ⟨gr,0,none⟩) 4 4∧KidZ 0 Q w gr 5 [namI y.parts,numI y.ser,numI y.tm,numI y.rs]
  | 14=>∃ a0 n0 c0 k0 m0 e0,v=.agg #[.int .i64 (goI y).cls,.int .i64 (goI y).tag,.bool (goI y).cons,.slice a0 n0 c0,.slice k0 m0 e0]∧ItZ 0 Q 5 w (goI y) a0 n0 c0 k0 m0 e0
  | 15=>∃ g8 a0 n0 c0 k0 m0 e0,v=.slice (some ⟨g8,0,none⟩) 1 1∧w.heap[g8]? = some (.cells #[.int .i64 (goI y).cls,.int .i64 (goI y).tag,.bool (goI y).cons,.slice a0 n0 c0,.slice k0 m0 e0] 94 (0,0))∧ItZ 0 Q 5 w (goI y) a0 n0 c0 k0 m0 e0∧Q≤g8
  | 16=>∃ gf cf,v=.slice (some ⟨gf,0,none⟩) (kq+1) cf∧OwnItZ 5 0 R w (some ⟨gf,0,none⟩) (kq+1) cf (es0++[goI y])
  | 17=>∃ gf cf,v=.slice (some ⟨gf,0,none⟩) (kq+1) cf∧OwnItZ 5 0 R w (some ⟨gf,0,none⟩) (kq+1) cf (es0++[goI y])
  | 18=>w.heap[G]? = some (.cells #[.slice an nn cn,.int .i64 y.ser,.int .i64 y.tm,.int .i64 y.rs] 74 (0,0))
  | 19=>OwnItZ 5 0 R w ao kq cc es0
  | _=>v=.slice ao kq cc
theorem ci3r_stb (y:GP)(an:Option Addr)(nn cn:Nat)(ao:Option Addr)(kq cc:Nat)(es0:List It)(Q R G B:Nat)(k:Nat)(hk:k<21):StB ((ci3r y an nn cn ao kq cc es0 Q R G (B)).fact k):=by
 match k,hk with
 | 0,_=>exact fun _ _ _ h _=>h
 | 1,_=>exact fun _ _ _ h _=>h
 | 2,_=>exact fun _ _ _ h _=>h
 | 3,_=>exact fun _ _ _ ⟨a1,n1,c1,k1,m1,e1,hv,q_0⟩ hb=>⟨a1,n1,c1,k1,m1,e1,hv,q_0.kept hb⟩
 | 4,_=>exact fun _ _ _ h _=>h
 | 5,_=>exact fun _ _ _ h _=>h
 | 6,_=>exact fun _ _ _ ⟨a2,n2,c2,k2,m2,e2,hv,q_0⟩ hb=>⟨a2,n2,c2,k2,m2,e2,hv,q_0.kept hb⟩
 | 7,_=>exact fun _ _ _ h _=>h
 | 8,_=>exact fun _ _ _ h _=>h
 | 9,_=>exact fun _ _ _ ⟨a3,n3,c3,k3,m3,e3,hv,q_0⟩ hb=>⟨a3,n3,c3,k3,m3,e3,hv,q_0.kept hb⟩
 | 10,_=>exact fun _ _ _ h _=>h
 | 11,_=>exact fun _ _ _ h _=>h
 | 12,_=>exact fun _ _ _ ⟨a4,n4,c4,k4,m4,e4,hv,q_0⟩ hb=>⟨a4,n4,c4,k4,m4,e4,hv,q_0.kept hb⟩
 | 13,_=>exact fun _ _ _ ⟨gr,hv,q_0⟩ hb=>⟨gr,hv,q_0.kept hb⟩
 | 14,_=>exact fun _ _ _ ⟨a0,n0,c0,k0,m0,e0,hv,q_0⟩ hb=>⟨a0,n0,c0,k0,m0,e0,hv,q_0.kept hb⟩
 | 15,_=>exact fun _ _ _ ⟨g8,a0,n0,c0,k0,m0,e0,hv,q_0,q_1,q_2⟩ hb=>⟨g8,a0,n0,c0,k0,m0,e0,hv,below_kept q_0 hb,q_1.kept hb,q_2⟩
 | 16,_=>exact fun _ _ _ ⟨gf,cf,hv,q_0⟩ hb=>⟨gf,cf,hv,q_0.kept hb⟩
 | 17,_=>exact fun _ _ _ ⟨gf,cf,hv,q_0⟩ hb=>⟨gf,cf,hv,q_0.kept hb⟩
 | 18,_=>exact fun _ _ _ q_0 hb=>below_kept q_0 hb
 | 19,_=>exact fun _ _ _ q_0 hb=>q_0.kept hb
 | 20,_=>exact fun _ _ _ h _=>h
 | k+21,hk=>omega
def ci3b (p1:Option Addr)(q1 r1:Nat)(p2:Option Addr)(q2 r2:Nat)(p3:Option Addr)(q3 r3:Nat)(x:CP)(ao:Option Addr)(cc:Nat)(l:List Int)(L R G B:Nat):RSpec where
 m:=27
 n:=29
 slots:=[36,37,38,39,40,41,42,43,44,45,46,47,48,49,50,51,52,53,54,55,56,57,58,59,60,61,2,100027,100028]
 kills:=[[],[],[],[],[],[],[],[],[],[],[],[],[],[],[],[],[],[],[],[],[],[],[],[],[],[],[],[],[]]
 pres:=[[],[],[],[],[],[],[],[],[],[],[],[],[],[],[],[],[],[],[],[],[],[],[],[],[],[],[],[],[]]
 fact:=fun k v w=>match k with
  | 0=>v=.pointer (some ⟨G,0,none⟩)
  | 1=>v=.agg #[.slice p1 q1 r1]
  | 2=>∃ a1 n1 c1 k1 m1 e1,v=.agg #[.int .i64 (namI x.parts).cls,.int .i64 (namI x.parts).tag,.bool (namI x.parts).cons,.slice a1 n1 c1,.slice k1 m1 e1]∧ItZ L R 6 w (namI x.parts) a1 n1 c1 k1 m1 e1
  | 3=>v=.pointer (some ⟨G,1,none⟩)
  | 4=>v=.int .i64 x.num
  | 5=>∃ a2 n2 c2 k2 m2 e2,v=.agg #[.int .i64 (numI x.num).cls,.int .i64 (numI x.num).tag,.bool (numI x.num).cons,.slice a2 n2 c2,.slice k2 m2 e2]∧ItZ L R 6 w (numI x.num) a2 n2 c2 k2 m2 e2
  | 6=>v=.pointer (some ⟨G,2,none⟩)
  | 7=>v=.int .i64 x.base
  | 8=>∃ a3 n3 c3 k3 m3 e3,v=.agg #[.int .i64 (numI x.base).cls,.int .i64 (numI x.base).tag,.bool (numI x.base).cons,.slice a3 n3 c3,.slice k3 m3 e3]∧ItZ L R 6 w (numI x.base) a3 n3 c3 k3 m3 e3
  | 9=>v=.pointer (some ⟨G,3,none⟩)
  | 10=>v=.int .i64 x.tm
  | 11=>∃ a4 n4 c4 k4 m4 e4,v=.agg #[.int .i64 (numI x.tm).cls,.int .i64 (numI x.tm).tag,.bool (numI x.tm).cons,.slice a4 n4 c4,.slice k4 m4 e4]∧ItZ L R 6 w (numI x.tm) a4 n4 c4 k4 m4 e4
  | 12=>v=.pointer (some ⟨G,4,none⟩)
  | 13=>v=.int .i64 x.next
  | 14=>∃ a5 n5 c5 k5 m5 e5,v=.agg #[.int .i64 (numI x.next).cls,.int .i64 (numI x.next).tag,.bool (numI x.next).cons,.slice a5 n5 c5,.slice k5 m5 e5]∧ItZ L R 6 w (numI x.next) a5 n5 c5 k5 m5 e5
  | 15=>v=.pointer (some ⟨G,5,none⟩)
  | 16=>v=.int .i64 x.scope
  | 17=>∃ a6 n6 c6 k6 m6 e6,v=.agg #[.int .i64 (numI x.scope).cls,.int .i64 (numI x.scope).tag,.bool (numI x.scope).cons,.slice a6 n6 c6,.slice k6 m6 e6]∧ItZ L R 6 w (numI x.scope) a6 n6 c6 k6 m6 e6
  | 18=>v=.pointer (some ⟨G,6,none⟩)
  | 19=>v=.bool x.ind
  | 20=>∃ a7 n7 c7 k7 m7 e7,v=.agg #[.int .i64 (flgI x.ind).cls,.int .i64 (flgI x.ind).tag,.bool (flgI x.ind).cons,.slice a7 n7 c7,.slice k7 m7 e7]∧ItZ L R 6 w (flgI x.ind) a7 n7 c7 k7 m7 e7
  | 21=>v=.slice ao q2 cc
  | 22=>∃ a8 n8 c8 k8 m8 e8,v=.agg #[.int .i64 (lstI (x.ents.map goI)).cls,.int .i64 (lstI (x.ents.map goI)).tag,.bool (lstI (x.ents.map goI)).cons,.slice a8 n8 c8,.slice k8 m8 e8]∧ItZ L R 6 w (lstI (x.ents.map goI)) a8 n8 c8 k8 m8 e8
  | 23=>∃ gr,v=.slice (some ⟨gr,0,none⟩) 8 8∧KidZ L R w gr 7 (crK x)
  | 24=>∃ a0 n0 c0 k0 m0 e0,v=.agg #[.int .i64 (boxI 4 (crK x)).cls,.int .i64 (boxI 4 (crK x)).tag,.bool (boxI 4 (crK x)).cons,.slice a0 n0 c0,.slice k0 m0 e0]∧ItZ L R 7 w (boxI 4 (crK x)) a0 n0 c0 k0 m0 e0
  | 25=>∃ a4 c4,v=.slice a4 l.length c4∧Own B w a4 l.length c4 l
  | 26=>∃ a4 c4,v=.slice a4 l.length c4∧Own B w a4 l.length c4 l
  | 27=>w.heap[G]? = some (.cells #[.slice p1 q1 r1,.int .i64 x.num,.int .i64 x.base,.int .i64 x.tm,.int .i64 x.next,.int .i64 x.scope,.bool x.ind,.slice p2 q2 r2,.slice p3 q3 r3] 38 (0,0))
  | _=>ListZ L R 6 w ao q2 (x.ents.map goI)
theorem ci3b_stb (p1:Option Addr)(q1 r1:Nat)(p2:Option Addr)(q2 r2:Nat)(p3:Option Addr)(q3 r3:Nat)(x:CP)(ao:Option Addr)(cc:Nat)(l:List Int)(L R G B:Nat)(k:Nat)(hk:k<29):StB ((ci3b p1 q1 r1 p2 q2 r2 p3 q3 r3 x ao cc l L R G (B)).fact k):=by
 match k,hk with
 | 0,_=>exact fun _ _ _ h _=>h
 | 1,_=>exact fun _ _ _ h _=>h
 | 2,_=>exact fun _ _ _ ⟨a1,n1,c1,k1,m1,e1,hv,q_0⟩ hb=>⟨a1,n1,c1,k1,m1,e1,hv,q_0.kept hb⟩
 | 3,_=>exact fun _ _ _ h _=>h
 | 4,_=>exact fun _ _ _ h _=>h
 | 5,_=>exact fun _ _ _ ⟨a2,n2,c2,k2,m2,e2,hv,q_0⟩ hb=>⟨a2,n2,c2,k2,m2,e2,hv,q_0.kept hb⟩
 | 6,_=>exact fun _ _ _ h _=>h
 | 7,_=>exact fun _ _ _ h _=>h
 | 8,_=>exact fun _ _ _ ⟨a3,n3,c3,k3,m3,e3,hv,q_0⟩ hb=>⟨a3,n3,c3,k3,m3,e3,hv,q_0.kept hb⟩
 | 9,_=>exact fun _ _ _ h _=>h
 | 10,_=>exact fun _ _ _ h _=>h
 | 11,_=>exact fun _ _ _ ⟨a4,n4,c4,k4,m4,e4,hv,q_0⟩ hb=>⟨a4,n4,c4,k4,m4,e4,hv,q_0.kept hb⟩
 | 12,_=>exact fun _ _ _ h _=>h
 | 13,_=>exact fun _ _ _ h _=>h
 | 14,_=>exact fun _ _ _ ⟨a5,n5,c5,k5,m5,e5,hv,q_0⟩ hb=>⟨a5,n5,c5,k5,m5,e5,hv,q_0.kept hb⟩
 | 15,_=>exact fun _ _ _ h _=>h
 | 16,_=>exact fun _ _ _ h _=>h
 | 17,_=>exact fun _ _ _ ⟨a6,n6,c6,k6,m6,e6,hv,q_0⟩ hb=>⟨a6,n6,c6,k6,m6,e6,hv,q_0.kept hb⟩
 | 18,_=>exact fun _ _ _ h _=>h
 | 19,_=>exact fun _ _ _ h _=>h
 | 20,_=>exact fun _ _ _ ⟨a7,n7,c7,k7,m7,e7,hv,q_0⟩ hb=>⟨a7,n7,c7,k7,m7,e7,hv,q_0.kept hb⟩
 | 21,_=>exact fun _ _ _ h _=>h
 | 22,_=>exact fun _ _ _ ⟨a8,n8,c8,k8,m8,e8,hv,q_0⟩ hb=>⟨a8,n8,c8,k8,m8,e8,hv,q_0.kept hb⟩
 | 23,_=>exact fun _ _ _ ⟨gr,hv,q_0⟩ hb=>⟨gr,hv,q_0.kept hb⟩
 | 24,_=>exact fun _ _ _ ⟨a0,n0,c0,k0,m0,e0,hv,q_0⟩ hb=>⟨a0,n0,c0,k0,m0,e0,hv,q_0.kept hb⟩
 | 25,_=>exact fun _ _ _ ⟨a4,c4,hv,q_0⟩ hb=>⟨a4,c4,hv,q_0.kept hb⟩
 | 26,_=>exact fun _ _ _ ⟨a4,c4,hv,q_0⟩ hb=>⟨a4,c4,hv,q_0.kept hb⟩
 | 27,_=>exact fun _ _ _ q_0 hb=>below_kept q_0 hb
 | 28,_=>exact fun _ _ _ q_0 hb=>q_0.kept hb
 | k+29,hk=>omega
theorem GoiS_next (xs:List GP)(k:Nat)(h:k<xs.length):(xs.take (k+1)).map goI=(xs.take k).map goI++[goI (xs.getD k default)]:=by
 rw [List.take_add_one,List.map_append]
 simp [h]
theorem l10Body_any (p1:Option Addr)(q1 r1:Nat)(p2:Option Addr)(q2 r2:Nat)(p3:Option Addr)(q3 r3:Nat)(x:CP)(l:List Int)(w:World)(h:Crs w p1 q1 p2 q2 p3 q3 x)(hP:crlP x)(hE:enc 12 (boxI 4 (crK x))=some l) :
  Calls Tryz.prog 19 #[crv p1 q1 r1 p2 q2 r2 p3 q3 r3 x] w fun e w'=>∃ a' c',e=.returned (.slice a' l.length c')∧Own w.heap.size w' a' l.length c' l∧Below w.heap.size w w':=by
 show Calls Tryz.prog 19 #[.agg #[.slice p1 q1 r1,.int .i64 x.num,.int .i64 x.base,.int .i64 x.tm,.int .i64 x.next,.int .i64 x.scope,.bool x.ind,.slice p2 q2 r2,.slice p3 q3 r3]] w _
 obtain ⟨i0,hi,hz0,hz1,hz2⟩:=info_parts Tryz.infoIt
 obtain ⟨w1,hw1⟩:∃ w1,w1=w.alloc (.cells #[.slice p1 q1 r1,.int .i64 x.num,.int .i64 x.base,.int .i64 x.tm,.int .i64 x.next,.int .i64 x.scope,.bool x.ind,.slice p2 q2 r2,.slice p3 q3 r3] 38):=⟨_,rfl⟩
 have hbx:Below w.heap.size w w1:=by rw [hw1]; exact (Below.refl _ _).alloc (Nat.le_refl _) _
 have HB1:Hid (w1.heap[w.heap.size]? = some (.cells #[.slice p1 q1 r1,.int .i64 x.num,.int .i64 x.base,.int .i64 x.tm,.int .i64 x.next,.int .i64 x.scope,.bool x.ind,.slice p2 q2 r2,.slice p3 q3 r3] 38 (0,0))):=by show _=_; rw [hw1]; exact heap_alloc_new w _
 have hszl:w.heap.size<w1.heap.size:=(Array.getElem?_eq_some_iff.1 HB1.out).1
 have hl1:=h.nm.len
 have hl2:=h.en.len
 have h60:x.ents.length≤60:=hP.1.2.2.2.2.2.2.2.1
 have hn8:=hP.1.1.1.1
 have H0:Hid (Gns w1 p2 q2 x.ents):=h.en.kept hbx
 have HLX:Hid (x.ents.length=q2):=hl2
 have hn2:q2≤1000:=by omega
 have HVS:Hid (∀ k,k<q2→GoS (x.ents.getD k default)):=fun k hk=>goS_of (hP.2.1 k (by omega))
 have HNA:Hid (∀ W,Below w.heap.size w W→Calls Tryz.prog 51 #[.agg #[.slice p1 q1 r1]] W fun e w'=>ItR 0 W.heap.size 4 (namI x.parts) e w'∧Below W.heap.size W w'):=fun W hW=>l9Name_R p1 q1 r1 x.parts W (h.nm.kept hW) (by omega) (fun k hk=>by have:=(hP.1.1.1.2 k (by omega)).2.1; omega)
 have HE:Hid (enc 12 (boxI 4 (crK x))=some l):=hE
 have HW:Hid (_=_):=hw1
 have hbE:Below w1.heap.size w1 (w1.alloc (.cells #[] 94)):=(Below.refl _ _).alloc (Nat.le_refl _) _
 have HO0:Hid (OwnItZ 5 0 w1.heap.size (w1.alloc (.cells #[] 94)) (some ⟨w1.heap.size,0,none⟩) 0 0 ((x.ents.take 0).map goI)):=ownItZ_empty 5 0 w1
 clear h hP hE hl1 hl2 h60 hn8 hw1
 go_enter Tryz.func19,Tryz.ntmps19
 go_upto_region 1 with fail
 rw [← HW.out]
 clear HW
 go_wp2
 go_loopw [3,4] (fun o i wr=>∃ (kq:Nat) (ao:Option Addr) (cc:Nat),kq≤q2∧i=.int .i64 kq∧o=.slice ao kq cc∧Hid (OwnItZ 5 0 w1.heap.size wr ao kq cc ((x.ents.take kq).map goI))∧Below w1.heap.size w1 wr) (fun _ i _=>q2 - (intOf i).toNat)
 case atStart=>exact ⟨0,_,0,Nat.zero_le _,rfl,rfl,HO0,hbE⟩
 case round =>
  obtain ⟨kq,ao,cc,hk,rfl,rfl,HO,hbr⟩:=hrel
  have hws:=hbr.size
  have HBX:Hid (wr.heap[w.heap.size]? = some (.cells #[.slice p1 q1 r1,.int .i64 x.num,.int .i64 x.base,.int .i64 x.tm,.int .i64 x.next,.int .i64 x.scope,.bool x.ind,.slice p2 q2 r2,.slice p3 q3 r3] 38 (0,0))):=below_kept HB1.out hbr
  have x7:wr.cell? ⟨w.heap.size,7,none⟩=some (.slice p2 q2 r2):=qk HBX.out rfl
  have hltw:w.heap.size<wr.heap.size:=by omega
  by_cases hkn:kq<q2
  ·obtain ⟨b0,off,an,nn,cn,hA,hlb,hc,hp⟩:=H0.out.get kq hkn
   subst hA
   obtain ⟨y,hy⟩:∃ y,y=x.ents.getD kq default:=⟨_,rfl⟩
   rw [← hy] at hc hp
   have hvy:GoS y:=by rw [hy]; exact HVS.out kq hkn
   have HNN:nn≤1000:=by rw [← hp.len]; exact hvy.1
   have HPV:∀ k,k<nn→(y.parts.getD k default).val.size≤1000:=fun k hk=>hvy.2 k (by rw [hp.len]; exact hk)
   obtain ⟨es0,hes⟩:∃ es0,es0=(x.ents.take kq).map goI:=⟨_,rfl⟩
   have HXK:Hid ((x.ents.take (kq+1)).map goI=es0++[goI y]):=by show _=_; rw [hes,hy]; exact GoiS_next x.ents kq (by rw [HLX.out]; exact hkn)
   obtain ⟨wq,hwq⟩:∃ wq,wq=wr.alloc (.cells #[.slice an nn cn,.int .i64 y.ser,.int .i64 y.tm,.int .i64 y.rs] 74):=⟨_,rfl⟩
   have hbq:Below wr.heap.size wr wq:=by rw [hwq]; exact (Below.refl _ _).alloc (Nat.le_refl _) _
   have hsq:wr.heap.size<wq.heap.size:=by rw [hwq]; simp
   have hb1:Below w1.heap.size w1 wq:=hbr.trans (hbq.mono hws)
   have HBR:Hid (wq.heap[wr.heap.size]? = some (.cells #[.slice an nn cn,.int .i64 y.ser,.int .i64 y.tm,.int .i64 y.rs] 74 (0,0))):=by show _=_; rw [hwq]; exact heap_alloc_new wr _
   have HOR:Hid (OwnItZ 5 0 w1.heap.size wq ao kq cc es0):=by show OwnItZ _ _ _ _ _ _ _ _; rw [hes]; exact HO.out.kept hbq
   have hown:∀ b,(Value.slice ao kq cc).ownBlock=some b→b<wr.heap.size:=fun b hb=>by obtain ⟨vs0,hv0⟩:=HO.out.row; exact (hv0.lt b hb).2
   have HOWN:Hid (∀ b,(Value.slice ao kq cc).ownBlock=some b→0≤b∧b<wq.heap.size):=fun b hb=>⟨Nat.zero_le _,by have:=hown b hb; omega⟩
   have HNG:Hid (∀ b,(Value.slice ao kq cc).ownBlock=some b→b≠wr.heap.size):=fun b hb=>by have:=hown b hb; omega
   have HPT:Hid (∀ W,Below w1.heap.size wq W→Pts W an nn y.parts):=fun W hW=>hp.kept (hb1.trans hW)
   have HBB:w1.heap.size≤wq.heap.size:=hb1.size
   have HQR:w1.heap.size≤wq.heap.size:=hb1.size
   have hkni:(kq:Int)<(q2:Int):=by omega
   have hlbw:b0<wr.heap.size:=by omega
   obtain ⟨c0,d1,d2,d3⟩:=hc.of (w':=wr) (fun i=>hbr.cell (p:=⟨b0,i,none⟩) hlb)
   have HWQ:Hid (_=_):=hwq
   clear hy hc hes HO hp hvy hwq hown
   go_upto_region 6 with fail
   rw [← HWQ.out]
   clear c0 d1 d2 d3 HWQ x7
   have stb:=ci3r_stb y an nn cn ao kq cc es0 wq.heap.size w1.heap.size wr.heap.size (w1.heap.size)
   refine wp_region_ri (ci3r y an nn cn ao kq cc es0 wq.heap.size w1.heap.size wr.heap.size (w1.heap.size)) [3,19,20,21,22,23,24,25,26,27,28,29,30,31,32,33,34,35] (w1.heap.size) (fun a0=>a0.tmps.size=62∧aT a0 5=.pointer (some ⟨wr.heap.size,0,none⟩)) (by kernel_rfl) rfl (by kernel_rfl) rfl ⟨rfl,rfl⟩ stb ?_ ?_ ?_
   ·exact vt3 (m:=18) (HBR.out) (HOR.out) (rfl)
   ·rintro a0 ⟨hz,g5⟩
    refine StepsRI.cons ?_ (StepsRI.cons ?_ (StepsRI.cons ?_ (StepsRI.cons ?_ (StepsRI.cons ?_ (StepsRI.cons ?_ (StepsRI.cons ?_ (StepsRI.cons ?_ (StepsRI.cons ?_ (StepsRI.cons ?_ (StepsRI.cons ?_ (StepsRI.cons ?_ (StepsRI.cons ?_ (StepsRI.cons ?_ (StepsRI.cons ?_ (StepsRI.cons ?_ (StepsRI.cons ?_ (StepsRI.cons ?_ (StepsRI.nil))))))))))))))))))
    all_goals intro lQ b W hI hUN hED KQ hKQ
    ·have huA:lQ 17=false:=unT fun h=>by
      have h2:=hI.cl 16 (od rfl) (hI.cl 17 (od rfl) h 16 (List.Mem.head _)) 0 (List.Mem.head _)
      rw [show lQ 0=false from hUN] at h2
      cases h2
     have f:aT b 3=.slice ao kq cc:=hI.vot1 20 17 (od rfl) (od rfl) huA rfl
     exact opw_move 3 rfl (hKQ.out _ _ (hI.pu 0 19 hz hUN HBB stb (Below.refl _ _) f))
    ·exact opw_field 74 5 0 rfl _ ((hI.fr.same 5 (by decide)).trans g5) _ (by kernel_rfl) (hKQ.out _ _ (hI.pu 1 20 hz hUN HBB stb (Below.refl _ _) rfl))
    ·have f:aT b 20=.pointer (some ⟨wr.heap.size,0,none⟩):=hI.ge 1 hED
     have hg:=(hI.vo 18)
     have hc0:W.cell? ⟨wr.heap.size,0,none⟩=some (.slice an nn cn):=qk hg rfl
     exact opw_load1 35 20 rfl _ f _ (by simp [Instr.loadAt,go_sem,hc0]) (hKQ.out _ _ (hI.pu 2 21 hz hUN HBB stb (Below.refl _ _) rfl))
    ·have f0:aT b 21=.agg #[.slice an nn cn]:=hI.ge 2 hED
     refine opw_c1 51 21 Tryz.func51 f0 ?_
     refine (l9Name_R an nn cn y.parts W (HPT.out W hI.bel) HNN HPV).mono ?_
     rintro r W2 ⟨⟨a1,n1,c1,k1,m1,e1,rfl,hzI⟩,hb⟩
     exact ⟨_,rfl,hKQ.out _ _ (hI.pu 3 22 hz hUN HBB stb hb ⟨a1,n1,c1,k1,m1,e1,rfl,((hzI.mono hI.bel.size).le (by decide))⟩)⟩
    ·exact opw_field 74 5 1 rfl _ ((hI.fr.same 5 (by decide)).trans g5) _ (by kernel_rfl) (hKQ.out _ _ (hI.pu 4 23 hz hUN HBB stb (Below.refl _ _) rfl))
    ·have f:=hI.ge 4 hED
     have hg:=(hI.vo 18)
     have hc:W.cell? ⟨wr.heap.size,1,none⟩=some (.int .i64 y.ser):=qk hg rfl
     exact opw_load1 2 23 rfl _ f _ (by simp [Instr.loadAt,go_sem,hc]) (hKQ.out _ _ (hI.pu 5 24 hz hUN HBB stb (Below.refl _ _) rfl))
    ·have f0:aT b 24=.int .i64 y.ser:=hI.ge 5 hED
     refine opw_c1 52 24 Tryz.func52 f0 ?_
     refine (l9Num_R y.ser 0 W).mono ?_
     rintro r W2 ⟨⟨a2,n2,c2,k2,m2,e2,rfl,hzI⟩,hb⟩
     exact ⟨_,rfl,hKQ.out _ _ (hI.pu 6 25 hz hUN HBB stb hb ⟨a2,n2,c2,k2,m2,e2,rfl,((hzI.mono hI.bel.size).le (by decide))⟩)⟩
    ·exact opw_field 74 5 2 rfl _ ((hI.fr.same 5 (by decide)).trans g5) _ (by kernel_rfl) (hKQ.out _ _ (hI.pu 7 26 hz hUN HBB stb (Below.refl _ _) rfl))
    ·have f:=hI.ge 7 hED
     have hg:=(hI.vo 18)
     have hc:W.cell? ⟨wr.heap.size,2,none⟩=some (.int .i64 y.tm):=qk hg rfl
     exact opw_load1 2 26 rfl _ f _ (by simp [Instr.loadAt,go_sem,hc]) (hKQ.out _ _ (hI.pu 8 27 hz hUN HBB stb (Below.refl _ _) rfl))
    ·have f0:aT b 27=.int .i64 y.tm:=hI.ge 8 hED
     refine opw_c1 52 27 Tryz.func52 f0 ?_
     refine (l9Num_R y.tm 0 W).mono ?_
     rintro r W2 ⟨⟨a3,n3,c3,k3,m3,e3,rfl,hzI⟩,hb⟩
     exact ⟨_,rfl,hKQ.out _ _ (hI.pu 9 28 hz hUN HBB stb hb ⟨a3,n3,c3,k3,m3,e3,rfl,((hzI.mono hI.bel.size).le (by decide))⟩)⟩
    ·exact opw_field 74 5 3 rfl _ ((hI.fr.same 5 (by decide)).trans g5) _ (by kernel_rfl) (hKQ.out _ _ (hI.pu 10 29 hz hUN HBB stb (Below.refl _ _) rfl))
    ·have f:=hI.ge 10 hED
     have hg:=(hI.vo 18)
     have hc:W.cell? ⟨wr.heap.size,3,none⟩=some (.int .i64 y.rs):=qk hg rfl
     exact opw_load1 2 29 rfl _ f _ (by simp [Instr.loadAt,go_sem,hc]) (hKQ.out _ _ (hI.pu 11 30 hz hUN HBB stb (Below.refl _ _) rfl))
    ·have f0:aT b 30=.int .i64 y.rs:=hI.ge 11 hED
     refine opw_c1 52 30 Tryz.func52 f0 ?_
     refine (l9Num_R y.rs 0 W).mono ?_
     rintro r W2 ⟨⟨a4,n4,c4,k4,m4,e4,rfl,hzI⟩,hb⟩
     exact ⟨_,rfl,hKQ.out _ _ (hI.pu 12 31 hz hUN HBB stb hb ⟨a4,n4,c4,k4,m4,e4,rfl,((hzI.mono hI.bel.size).le (by decide))⟩)⟩
    ·obtain ⟨a1,n1,c1,k1,m1,e1,f1,o1⟩:=hI.ge 3 hED
     replace f1:aT b 22=_:=f1
     obtain ⟨a2,n2,c2,k2,m2,e2,f2,o2⟩:=hI.ge 6 hED
     replace f2:aT b 25=_:=f2
     obtain ⟨a3,n3,c3,k3,m3,e3,f3,o3⟩:=hI.ge 9 hED
     replace f3:aT b 28=_:=f3
     obtain ⟨a4,n4,c4,k4,m4,e4,f4,o4⟩:=hI.ge 12 hED
     replace f4:aT b 31=_:=f4
     refine opw_buildSliceT _ 4 _ rfl #[(0,.agg #[.int .i64 (namI y.parts).cls,.int .i64 (namI y.parts).tag,.bool (namI y.parts).cons,.slice a1 n1 c1,.slice k1 m1 e1]),(1,.agg #[.int .i64 (numI y.ser).cls,.int .i64 (numI y.ser).tag,.bool (numI y.ser).cons,.slice a2 n2 c2,.slice k2 m2 e2]),(2,.agg #[.int .i64 (numI y.tm).cls,.int .i64 (numI y.tm).tag,.bool (numI y.tm).cons,.slice a3 n3 c3,.slice k3 m3 e3]),(3,.agg #[.int .i64 (numI y.rs).cls,.int .i64 (numI y.rs).tag,.bool (numI y.rs).cons,.slice a4 n4 c4,.slice k4 m4 e4])] (by simp [ev,f1,f2,f3,f4]) (.slice (some ⟨W.heap.size,0,none⟩) 4 4) (W.alloc (.cells #[.int .i64 (namI y.parts).cls,.int .i64 (namI y.parts).tag,.bool (namI y.parts).cons,.slice a1 n1 c1,.slice k1 m1 e1,.int .i64 (numI y.ser).cls,.int .i64 (numI y.ser).tag,.bool (numI y.ser).cons,.slice a2 n2 c2,.slice k2 m2 e2,.int .i64 (numI y.tm).cls,.int .i64 (numI y.tm).tag,.bool (numI y.tm).cons,.slice a3 n3 c3,.slice k3 m3 e3,.int .i64 (numI y.rs).cls,.int .i64 (numI y.rs).tag,.bool (numI y.rs).cons,.slice a4 n4 c4,.slice k4 m4 e4] 94)) (by kernel_rfl) ?_
     exact hKQ.out _ _ (hI.pu 13 32 hz hUN HBB stb ((Below.refl _ _).alloc (Nat.le_refl _) _) ⟨W.heap.size,rfl,kidZ_n4 hI.bel.size o1 o2 o3 o4⟩)
    ·obtain ⟨gr,f0,o0⟩:=hI.ge 13 hED
     replace f0:aT b 32=_:=f0
     refine opw_c1 50 32 Tryz.func50 f0 ?_
     refine (l9Struct_R o0 rfl).mono ?_
     rintro r W2 ⟨⟨a0,n0,c0,k0,m0,e0,rfl,hzI⟩,hb⟩
     exact ⟨_,rfl,hKQ.out _ _ (hI.pu 14 33 hz hUN HBB stb hb ⟨a0,n0,c0,k0,m0,e0,rfl,hzI⟩)⟩
    ·obtain ⟨a0,n0,c0,k0,m0,e0,f0,o0⟩:=hI.ge 14 hED
     replace f0:aT b 33=_:=f0
     refine opw_buildSliceT _ 1 _ rfl #[(0,.agg #[.int .i64 (goI y).cls,.int .i64 (goI y).tag,.bool (goI y).cons,.slice a0 n0 c0,.slice k0 m0 e0])] (by simp [ev,f0]) (.slice (some ⟨W.heap.size,0,none⟩) 1 1) (W.alloc (.cells #[.int .i64 (goI y).cls,.int .i64 (goI y).tag,.bool (goI y).cons,.slice a0 n0 c0,.slice k0 m0 e0] 94)) (by kernel_rfl) ?_
     have hbA:Below W.heap.size W (W.alloc (.cells #[.int .i64 (goI y).cls,.int .i64 (goI y).tag,.bool (goI y).cons,.slice a0 n0 c0,.slice k0 m0 e0] 94)):=(Below.refl _ _).alloc (Nat.le_refl _) _
     exact hKQ.out _ _ (hI.pu 15 34 hz hUN HBB stb hbA ⟨W.heap.size,a0,n0,c0,k0,m0,e0,rfl,heap_alloc_new W _,o0.kept hbA,hI.bel.size⟩)
    ·obtain ⟨g8,a0,n0,c0,k0,m0,e0,f1,hg8,o1,_⟩:=hI.ge 15 hED
     have f0:aT b 19=.slice ao kq cc:=hI.ge 0 hED
     have hits:OwnItZ 5 0 w1.heap.size W ao kq cc es0:=hI.vot1 19 16 (od rfl) (od rfl) hUN rfl
     replace f1:aT b 34=_:=f1
     obtain ⟨vs,hrow⟩:=hits.row
     have hWs:=hI.bel.size
     refine wp_append_lies W (.tmp 19) (.tmp 34) 92 rfl 0 94 i0 _ 5 72 Tryz.underlying92 hi hz0 hz1 hz2 rfl (by decide) (.slice ao kq cc) kq vs f0 hrow ⟨g8,0,none⟩ 1 1 [.int .i64 (goI y).cls,.int .i64 (goI y).tag,.bool (goI y).cons,.slice a0 n0 c0,.slice k0 m0 e0] f1 rfl (World.news_of_block hg8) (by intro u hu; simp only [List.mem_cons,List.not_mem_nil,or_false] at hu; rcases hu with rfl | rfl | rfl | rfl | rfl <;> rfl) (by decide) (by unfold maxLen; omega) (by omega) (Nat.zero_le _) _ rfl ?_
     intro gf cf w' hv hg hl hlt
     have hnew:OwnItZ 5 0 w1.heap.size w' (some ⟨gf,0,none⟩) (kq+1) cf (es0++[goI y]):=hits.appended o1.it (fun b hb=>⟨by have:=hb.1; have:=HQR; omega,hb.2,fun e=>by have:=HOWN.out b e; have:=hb.1; omega⟩) (by omega) hrow hv hg hl (by have:=HBB; omega)
     have hb':Below w1.heap.size wq w':=hI.bel.grown hg (by have:=HBB; omega) (fun kx hx=>hits.2 kx hx)
     have hno:lQ 17=true→False:=fun h=>by
      have h2:=hI.cl 17 (od rfl) h 16 (List.Mem.head _)
      rw [show lQ 16=false from hUN] at h2
      cases h2
     refine hKQ.out _ _ (hI.turn 16 35 (fun j hj=>by rcases List.mem_singleton.1 hj with rfl; exact edge hED 0 (by kernel_rfl)) rfl (by rw [hz]; decide) rfl hUN rfl hb' ?_ ⟨gf,cf,rfl,hnew⟩)
     intro kx hkx hne hlk hkill u hu
     match kx,hkx,hne,hkill,hu with
      | 0,_,_,_,hu=>exact hu
      | 1,_,_,_,hu=>exact hu
      | 2,_,_,_,hu=>exact hu
      | 3,_,_,_,⟨a1,n1,c1,k1,m1,e1,hv,q_0⟩=>exact ⟨a1,n1,c1,k1,m1,e1,hv,q_0.grown hg (fun j hj=>HOWN.out j hj)⟩
      | 4,_,_,_,hu=>exact hu
      | 5,_,_,_,hu=>exact hu
      | 6,_,_,_,⟨a2,n2,c2,k2,m2,e2,hv,q_0⟩=>exact ⟨a2,n2,c2,k2,m2,e2,hv,q_0.grown hg (fun j hj=>HOWN.out j hj)⟩
      | 7,_,_,_,hu=>exact hu
      | 8,_,_,_,hu=>exact hu
      | 9,_,_,_,⟨a3,n3,c3,k3,m3,e3,hv,q_0⟩=>exact ⟨a3,n3,c3,k3,m3,e3,hv,q_0.grown hg (fun j hj=>HOWN.out j hj)⟩
      | 10,_,_,_,hu=>exact hu
      | 11,_,_,_,hu=>exact hu
      | 12,_,_,_,⟨a4,n4,c4,k4,m4,e4,hv,q_0⟩=>exact ⟨a4,n4,c4,k4,m4,e4,hv,q_0.grown hg (fun j hj=>HOWN.out j hj)⟩
      | 13,_,_,_,⟨gr,hv,q_0⟩=>exact ⟨gr,hv,q_0.grown hg (fun j hj=>HOWN.out j hj)⟩
      | 14,_,_,_,⟨a0,n0,c0,k0,m0,e0,hv,q_0⟩=>exact ⟨a0,n0,c0,k0,m0,e0,hv,q_0.grown hg (fun j hj=>HOWN.out j hj)⟩
      | 15,_,_,_,⟨g8,a0,n0,c0,k0,m0,e0,hv,q_0,q_1,q_2⟩=>exact ⟨g8,a0,n0,c0,k0,m0,e0,hv,(hg.block _ (Array.getElem?_eq_some_iff.1 q_0).1 (fun e=>by have:=(HOWN.out _ e.symm).2; omega)).trans q_0,q_1.grown hg (fun j hj=>HOWN.out j hj),q_2⟩
      | 16,_,hne,_,_=>exact absurd rfl hne
      | 17,_,_,hkill,hu=>exact (hno hlk).elim
      | 18,_,_,_,hu=>exact (hg.block _ (Array.getElem?_eq_some_iff.1 hu).1 (fun e=>HNG.out _ e.symm rfl)).trans hu
      | 19,_,_,hkill,_=>exact absurd (hkill 16 (List.Mem.head _)) (by rw [upd_same]; decide)
      | 20,_,_,_,hu=>exact hu
      | kx+21,hkx,_,_,_=>exact absurd hkx (by show ¬ (kx+21<21); omega)
    ·have f:=hI.ge 16 hED
     obtain ⟨gf,cf,f0,o0⟩:=f
     replace f0:aT b 35=_:=f0
     refine opw_assign 35 rfl ?_
     rw [f0]
     exact hKQ.out _ _ (hI.putp 17 3 (fun j hj=>by rcases List.mem_singleton.1 hj with rfl; exact edge hED 16 (by kernel_rfl)) rfl (by rw [hz]; decide) rfl hUN rfl HBB stb (Below.refl _ _) ⟨gf,cf,rfl,o0⟩)
   ·intro b W hf hb F
    clear stb
    obtain ⟨gf,cf,e3,hits⟩:=F 17 (od rfl) rfl
    replace e3:aT b 3=_:=e3
    rw [hf.eq]
    simp only [puts,Act.put,List.setIfInBounds_toArray,List.set_cons_zero,List.set_cons_succ,e3]
    clear hf F e3
    generalize aT b=AT
    clear b
    have HO7:Hid (OwnItZ 5 0 w1.heap.size W (some ⟨gf,0,none⟩) (kq+1) cf ((x.ents.take (kq+1)).map goI)):=by show OwnItZ _ _ _ _ _ _ _ _; rw [HXK.out]; exact hits
    have B7:Below w1.heap.size w1 W:=hb1.trans hb
    clear hits
    go_wp2
    go_roundw
    case rel=>exact ⟨kq+1,_,cf,by omega,by go_num,rfl,HO7,B7⟩
    case measure=>simp [intOf]; omega
  ·obtain rfl:kq=q2:=by omega
   have HLE:Hid (ListZ 0 w1.heap.size 6 wr ao kq (x.ents.map goI)):=⟨by
    have:=HO.out.kids
    rw [List.take_of_length_le (by rw [HLX.out]; exact Nat.le_refl _)] at this
    exact this⟩
   have HBR:Hid (_=_):=HBX.out
   have hbA:Below w.heap.size w wr:=hbx.trans (hbr.mono hbx.size)
   have HNM:Hid (∀ W,Below w.heap.size wr W→Calls Tryz.prog 51 #[.agg #[.slice p1 q1 r1]] W fun e w'=>ItR 0 W.heap.size 4 (namI x.parts) e w'∧Below W.heap.size W w'):=fun W hW=>HNA.out W (hbA.trans hW)
   have HRR:w1.heap.size≤wr.heap.size:=hws
   have HBB:w.heap.size≤wr.heap.size:=hbA.size
   have hnn:¬ ((kq:Int)<(kq:Int)):=by omega
   clear HO HNA
   go_upto_region 7 with fail
   clear x7
   have stb:=ci3b_stb p1 q1 r1 p2 kq r2 p3 q3 r3 x ao cc l 0 w1.heap.size w.heap.size (w.heap.size)
   refine wp_region_ri (ci3b p1 q1 r1 p2 kq r2 p3 q3 r3 x ao cc l 0 w1.heap.size w.heap.size (w.heap.size)) [2,36,37,38,39,40,41,42,43,44,45,46,47,48,49,50,51,52,53,54,55,56,57,58,59,60,61] (w.heap.size) (fun a0=>a0.tmps.size=62∧aT a0 1=.pointer (some ⟨w.heap.size,0,none⟩)∧aT a0 3=.slice ao kq cc) (by kernel_rfl) rfl (by kernel_rfl) rfl ⟨rfl,rfl,rfl⟩ stb ?_ ?_ ?_
   ·exact vt2 (m:=27) (HBR.out) (HLE.out)
   ·rintro a0 ⟨hz,g1,g3⟩
    refine StepsRI.cons ?_ (StepsRI.cons ?_ (StepsRI.cons ?_ (StepsRI.cons ?_ (StepsRI.cons ?_ (StepsRI.cons ?_ (StepsRI.cons ?_ (StepsRI.cons ?_ (StepsRI.cons ?_ (StepsRI.cons ?_ (StepsRI.cons ?_ (StepsRI.cons ?_ (StepsRI.cons ?_ (StepsRI.cons ?_ (StepsRI.cons ?_ (StepsRI.cons ?_ (StepsRI.cons ?_ (StepsRI.cons ?_ (StepsRI.cons ?_ (StepsRI.cons ?_ (StepsRI.cons ?_ (StepsRI.cons ?_ (StepsRI.cons ?_ (StepsRI.cons ?_ (StepsRI.cons ?_ (StepsRI.cons ?_ (StepsRI.cons ?_ (StepsRI.nil)))))))))))))))))))))))))))
    all_goals intro lQ b W hI hUN hED KQ hKQ
    ·exact opw_field 38 1 0 rfl _ ((hI.fr.same 1 (by decide)).trans g1) _ (by kernel_rfl) (hKQ.out _ _ (hI.pu 0 36 hz hUN HBB stb (Below.refl _ _) rfl))
    ·have f:aT b 36=.pointer (some ⟨w.heap.size,0,none⟩):=hI.ge 0 hED
     have hg:=(hI.vo 27)
     have hc0:W.cell? ⟨w.heap.size,0,none⟩=some (.slice p1 q1 r1):=qk hg rfl
     exact opw_load1 35 36 rfl _ f _ (by simp [Instr.loadAt,go_sem,hc0]) (hKQ.out _ _ (hI.pu 1 37 hz hUN HBB stb (Below.refl _ _) rfl))
    ·have f0:aT b 37=.agg #[.slice p1 q1 r1]:=hI.ge 1 hED
     refine opw_c1 51 37 Tryz.func51 f0 ?_
     refine (HNM.out W hI.bel).mono ?_
     rintro r W2 ⟨⟨a1,n1,c1,k1,m1,e1,rfl,hzI⟩,hb⟩
     exact ⟨_,rfl,hKQ.out _ _ (hI.pu 2 38 hz hUN HBB stb hb ⟨a1,n1,c1,k1,m1,e1,rfl,(hzI.mono (Nat.le_trans HRR hI.bel.size)).le (by decide)⟩)⟩
    ·exact opw_field 38 1 1 rfl _ ((hI.fr.same 1 (by decide)).trans g1) _ (by kernel_rfl) (hKQ.out _ _ (hI.pu 3 39 hz hUN HBB stb (Below.refl _ _) rfl))
    ·have f:=hI.ge 3 hED
     have hg:=(hI.vo 27)
     have hc:W.cell? ⟨w.heap.size,1,none⟩=some (.int .i64 x.num):=qk hg rfl
     exact opw_load1 2 39 rfl _ f _ (by simp [Instr.loadAt,go_sem,hc]) (hKQ.out _ _ (hI.pu 4 40 hz hUN HBB stb (Below.refl _ _) rfl))
    ·have f0:aT b 40=.int .i64 x.num:=hI.ge 4 hED
     refine opw_c1 52 40 Tryz.func52 f0 ?_
     refine (l9Num_R x.num 0 W).mono ?_
     rintro r W2 ⟨⟨a2,n2,c2,k2,m2,e2,rfl,hzI⟩,hb⟩
     exact ⟨_,rfl,hKQ.out _ _ (hI.pu 5 41 hz hUN HBB stb hb ⟨a2,n2,c2,k2,m2,e2,rfl,(hzI.mono (Nat.le_trans HRR hI.bel.size)).le (by decide)⟩)⟩
    ·exact opw_field 38 1 2 rfl _ ((hI.fr.same 1 (by decide)).trans g1) _ (by kernel_rfl) (hKQ.out _ _ (hI.pu 6 42 hz hUN HBB stb (Below.refl _ _) rfl))
    ·have f:=hI.ge 6 hED
     have hg:=(hI.vo 27)
     have hc:W.cell? ⟨w.heap.size,2,none⟩=some (.int .i64 x.base):=qk hg rfl
     exact opw_load1 2 42 rfl _ f _ (by simp [Instr.loadAt,go_sem,hc]) (hKQ.out _ _ (hI.pu 7 43 hz hUN HBB stb (Below.refl _ _) rfl))
    ·have f0:aT b 43=.int .i64 x.base:=hI.ge 7 hED
     refine opw_c1 52 43 Tryz.func52 f0 ?_
     refine (l9Num_R x.base 0 W).mono ?_
     rintro r W2 ⟨⟨a3,n3,c3,k3,m3,e3,rfl,hzI⟩,hb⟩
     exact ⟨_,rfl,hKQ.out _ _ (hI.pu 8 44 hz hUN HBB stb hb ⟨a3,n3,c3,k3,m3,e3,rfl,(hzI.mono (Nat.le_trans HRR hI.bel.size)).le (by decide)⟩)⟩
    ·exact opw_field 38 1 3 rfl _ ((hI.fr.same 1 (by decide)).trans g1) _ (by kernel_rfl) (hKQ.out _ _ (hI.pu 9 45 hz hUN HBB stb (Below.refl _ _) rfl))
    ·have f:=hI.ge 9 hED
     have hg:=(hI.vo 27)
     have hc:W.cell? ⟨w.heap.size,3,none⟩=some (.int .i64 x.tm):=qk hg rfl
     exact opw_load1 2 45 rfl _ f _ (by simp [Instr.loadAt,go_sem,hc]) (hKQ.out _ _ (hI.pu 10 46 hz hUN HBB stb (Below.refl _ _) rfl))
    ·have f0:aT b 46=.int .i64 x.tm:=hI.ge 10 hED
     refine opw_c1 52 46 Tryz.func52 f0 ?_
     refine (l9Num_R x.tm 0 W).mono ?_
     rintro r W2 ⟨⟨a4,n4,c4,k4,m4,e4,rfl,hzI⟩,hb⟩
     exact ⟨_,rfl,hKQ.out _ _ (hI.pu 11 47 hz hUN HBB stb hb ⟨a4,n4,c4,k4,m4,e4,rfl,(hzI.mono (Nat.le_trans HRR hI.bel.size)).le (by decide)⟩)⟩
    ·exact opw_field 38 1 4 rfl _ ((hI.fr.same 1 (by decide)).trans g1) _ (by kernel_rfl) (hKQ.out _ _ (hI.pu 12 48 hz hUN HBB stb (Below.refl _ _) rfl))
    ·have f:=hI.ge 12 hED
     have hg:=(hI.vo 27)
     have hc:W.cell? ⟨w.heap.size,4,none⟩=some (.int .i64 x.next):=qk hg rfl
     exact opw_load1 2 48 rfl _ f _ (by simp [Instr.loadAt,go_sem,hc]) (hKQ.out _ _ (hI.pu 13 49 hz hUN HBB stb (Below.refl _ _) rfl))
    ·have f0:aT b 49=.int .i64 x.next:=hI.ge 13 hED
     refine opw_c1 52 49 Tryz.func52 f0 ?_
     refine (l9Num_R x.next 0 W).mono ?_
     rintro r W2 ⟨⟨a5,n5,c5,k5,m5,e5,rfl,hzI⟩,hb⟩
     exact ⟨_,rfl,hKQ.out _ _ (hI.pu 14 50 hz hUN HBB stb hb ⟨a5,n5,c5,k5,m5,e5,rfl,(hzI.mono (Nat.le_trans HRR hI.bel.size)).le (by decide)⟩)⟩
    ·exact opw_field 38 1 5 rfl _ ((hI.fr.same 1 (by decide)).trans g1) _ (by kernel_rfl) (hKQ.out _ _ (hI.pu 15 51 hz hUN HBB stb (Below.refl _ _) rfl))
    ·have f:=hI.ge 15 hED
     have hg:=(hI.vo 27)
     have hc:W.cell? ⟨w.heap.size,5,none⟩=some (.int .i64 x.scope):=qk hg rfl
     exact opw_load1 2 51 rfl _ f _ (by simp [Instr.loadAt,go_sem,hc]) (hKQ.out _ _ (hI.pu 16 52 hz hUN HBB stb (Below.refl _ _) rfl))
    ·have f0:aT b 52=.int .i64 x.scope:=hI.ge 16 hED
     refine opw_c1 52 52 Tryz.func52 f0 ?_
     refine (l9Num_R x.scope 0 W).mono ?_
     rintro r W2 ⟨⟨a6,n6,c6,k6,m6,e6,rfl,hzI⟩,hb⟩
     exact ⟨_,rfl,hKQ.out _ _ (hI.pu 17 53 hz hUN HBB stb hb ⟨a6,n6,c6,k6,m6,e6,rfl,(hzI.mono (Nat.le_trans HRR hI.bel.size)).le (by decide)⟩)⟩
    ·exact opw_field 38 1 6 rfl _ ((hI.fr.same 1 (by decide)).trans g1) _ (by kernel_rfl) (hKQ.out _ _ (hI.pu 18 54 hz hUN HBB stb (Below.refl _ _) rfl))
    ·have f:=hI.ge 18 hED
     have hg:=(hI.vo 27)
     have hc:W.cell? ⟨w.heap.size,6,none⟩=some (.bool x.ind):=qk hg rfl
     exact opw_load1 4 54 rfl _ f _ (by simp [Instr.loadAt,go_sem,hc]) (hKQ.out _ _ (hI.pu 19 55 hz hUN HBB stb (Below.refl _ _) rfl))
    ·have f0:aT b 55=.bool x.ind:=hI.ge 19 hED
     refine opw_c1 55 55 Tryz.func55 f0 ?_
     refine (l9Flag_R x.ind W 0 (Nat.zero_le _)).mono ?_
     rintro r W2 ⟨⟨a7,n7,c7,k7,m7,e7,rfl,hzI⟩,hb⟩
     exact ⟨_,rfl,hKQ.out _ _ (hI.pu 20 56 hz hUN HBB stb hb ⟨a7,n7,c7,k7,m7,e7,rfl,(hzI.mono (Nat.le_trans HRR hI.bel.size)).le (by decide)⟩)⟩
    ·exact opw_move 3 rfl (hKQ.out _ _ (hI.pu 21 57 hz hUN HBB stb (Below.refl _ _) ((hI.fr.same 3 (by decide)).trans g3)))
    ·have hl0:=hI.vo 28
     have f0:aT b 57=.slice ao kq cc:=hI.ge 21 hED
     refine opw_c1 56 57 Tryz.func56 f0 ?_
     refine (l9List_R hl0).mono ?_
     rintro r W2 ⟨⟨a8,n8,c8,k8,m8,e8,rfl,hzI⟩,hb⟩
     exact ⟨_,rfl,hKQ.out _ _ (hI.pu 22 58 hz hUN HBB stb hb ⟨a8,n8,c8,k8,m8,e8,rfl,hzI.le (by decide)⟩)⟩
    ·obtain ⟨a1,n1,c1,k1,m1,e1,f1,o1⟩:=hI.ge 2 hED
     replace f1:aT b 38=_:=f1
     obtain ⟨a2,n2,c2,k2,m2,e2,f2,o2⟩:=hI.ge 5 hED
     replace f2:aT b 41=_:=f2
     obtain ⟨a3,n3,c3,k3,m3,e3,f3,o3⟩:=hI.ge 8 hED
     replace f3:aT b 44=_:=f3
     obtain ⟨a4,n4,c4,k4,m4,e4,f4,o4⟩:=hI.ge 11 hED
     replace f4:aT b 47=_:=f4
     obtain ⟨a5,n5,c5,k5,m5,e5,f5,o5⟩:=hI.ge 14 hED
     replace f5:aT b 50=_:=f5
     obtain ⟨a6,n6,c6,k6,m6,e6,f6,o6⟩:=hI.ge 17 hED
     replace f6:aT b 53=_:=f6
     obtain ⟨a7,n7,c7,k7,m7,e7,f7,o7⟩:=hI.ge 20 hED
     replace f7:aT b 56=_:=f7
     obtain ⟨a8,n8,c8,k8,m8,e8,f8,o8⟩:=hI.ge 22 hED
     replace f8:aT b 58=_:=f8
     refine opw_buildSliceT _ 8 _ rfl #[(0,.agg #[.int .i64 (namI x.parts).cls,.int .i64 (namI x.parts).tag,.bool (namI x.parts).cons,.slice a1 n1 c1,.slice k1 m1 e1]),(1,.agg #[.int .i64 (numI x.num).cls,.int .i64 (numI x.num).tag,.bool (numI x.num).cons,.slice a2 n2 c2,.slice k2 m2 e2]),(2,.agg #[.int .i64 (numI x.base).cls,.int .i64 (numI x.base).tag,.bool (numI x.base).cons,.slice a3 n3 c3,.slice k3 m3 e3]),(3,.agg #[.int .i64 (numI x.tm).cls,.int .i64 (numI x.tm).tag,.bool (numI x.tm).cons,.slice a4 n4 c4,.slice k4 m4 e4]),(4,.agg #[.int .i64 (numI x.next).cls,.int .i64 (numI x.next).tag,.bool (numI x.next).cons,.slice a5 n5 c5,.slice k5 m5 e5]),(5,.agg #[.int .i64 (numI x.scope).cls,.int .i64 (numI x.scope).tag,.bool (numI x.scope).cons,.slice a6 n6 c6,.slice k6 m6 e6]),(6,.agg #[.int .i64 (flgI x.ind).cls,.int .i64 (flgI x.ind).tag,.bool (flgI x.ind).cons,.slice a7 n7 c7,.slice k7 m7 e7]),(7,.agg #[.int .i64 (lstI (x.ents.map goI)).cls,.int .i64 (lstI (x.ents.map goI)).tag,.bool (lstI (x.ents.map goI)).cons,.slice a8 n8 c8,.slice k8 m8 e8])] (by simp [ev,f1,f2,f3,f4,f5,f6,f7,f8]) (.slice (some ⟨W.heap.size,0,none⟩) 8 8) (W.alloc (.cells #[.int .i64 (namI x.parts).cls,.int .i64 (namI x.parts).tag,.bool (namI x.parts).cons,.slice a1 n1 c1,.slice k1 m1 e1,.int .i64 (numI x.num).cls,.int .i64 (numI x.num).tag,.bool (numI x.num).cons,.slice a2 n2 c2,.slice k2 m2 e2,.int .i64 (numI x.base).cls,.int .i64 (numI x.base).tag,.bool (numI x.base).cons,.slice a3 n3 c3,.slice k3 m3 e3,.int .i64 (numI x.tm).cls,.int .i64 (numI x.tm).tag,.bool (numI x.tm).cons,.slice a4 n4 c4,.slice k4 m4 e4,.int .i64 (numI x.next).cls,.int .i64 (numI x.next).tag,.bool (numI x.next).cons,.slice a5 n5 c5,.slice k5 m5 e5,.int .i64 (numI x.scope).cls,.int .i64 (numI x.scope).tag,.bool (numI x.scope).cons,.slice a6 n6 c6,.slice k6 m6 e6,.int .i64 (flgI x.ind).cls,.int .i64 (flgI x.ind).tag,.bool (flgI x.ind).cons,.slice a7 n7 c7,.slice k7 m7 e7,.int .i64 (lstI (x.ents.map goI)).cls,.int .i64 (lstI (x.ents.map goI)).tag,.bool (lstI (x.ents.map goI)).cons,.slice a8 n8 c8,.slice k8 m8 e8] 94)) (by kernel_rfl) ?_
     exact hKQ.out _ _ (hI.pu 23 59 hz hUN HBB stb ((Below.refl _ _).alloc (Nat.le_refl _) _) ⟨W.heap.size,rfl,kidZ_n8 (Nat.le_trans HRR hI.bel.size) o1 o2 o3 o4 o5 o6 o7 o8⟩)
    ·obtain ⟨gr,f0,o0⟩:=hI.ge 23 hED
     replace f0:aT b 59=_:=f0
     refine opw_call 54 #[.const (.int .i64 1),.const (.int .i64 4),.tmp 59] _ _ _ rfl Tryz.func54 (by kernel_rfl) rfl #[.int .i64 1,.int .i64 4,.slice (some ⟨gr,0,none⟩) 8 8] (by simp [ev,evc,f0]) ?_
     refine (l2Box_R 4 o0 rfl).mono ?_
     rintro r W2 ⟨⟨a0,n0,c0,k0,m0,e0,rfl,hzI⟩,hb⟩
     exact ⟨_,rfl,hKQ.out _ _ (hI.pu 24 60 hz hUN HBB stb hb ⟨a0,n0,c0,k0,m0,e0,rfl,hzI⟩)⟩
    ·obtain ⟨a0,n0,c0,k0,m0,e0,f0,o0⟩:=hI.ge 24 hED
     replace f0:aT b 60=_:=f0
     refine opw_c1 53 60 Tryz.func53 f0 ?_
     refine (specBytes_all 7 12 (boxI 4 (crK x)) l a0 n0 c0 k0 m0 e0 W HE.out o0.it.row.row o0.it.nil o0.it.kids.kids).mono ?_
     rintro r W2 ⟨a4,c4,rfl,ho,hb⟩
     exact ⟨_,rfl,hKQ.out _ _ (hI.pu 25 61 hz hUN HBB stb hb ⟨a4,c4,rfl,ho.mono (Nat.le_trans HBB hI.bel.size)⟩)⟩
    ·have f:=hI.ge 25 hED
     exact opw_assign 61 rfl (hKQ.out _ _ (hI.pu 26 2 hz hUN HBB stb (Below.refl _ _) f))
   ·intro b W hf hb F
    clear stb
    obtain ⟨a4,c4,e2,ho⟩:=F 26 (od rfl) rfl
    replace e2:aT b 2=.slice a4 l.length c4:=e2
    rw [hf.eq]
    simp only [puts,Act.put,List.setIfInBounds_toArray,List.set_cons_zero,List.set_cons_succ,e2]
    clear hf F e2
    generalize aT b=AT
    clear b
    go_wp2
    go_ret
    exact ⟨a4,c4,rfl,ho,hbA.trans hb⟩
end Go.Proofs.YtnmplldhdfingaaGreatDoor
