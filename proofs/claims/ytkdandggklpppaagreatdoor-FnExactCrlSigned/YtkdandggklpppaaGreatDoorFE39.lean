import Derived.Test.YtkdandggklpppaaGreatDoorFE37
import Derived.Test.YtkdandggklpppaaGreatDoorFE38
import Derived.Test.YtkdandggklpppaaGreatDoorFE32
set_option maxRecDepth 10000
set_option maxHeartbeats 8000000
set_option linter.unusedVariables false
namespace Go.Proofs.YtkdandggklpppaaGreatDoor
open Go.RowKit Go.Sort
structure CrW (x:CP):Prop where
 num:W64 x.num
 base:W64 x.base
 tm:W64 x.tm
 next:W64 x.next
 scope:W64 x.scope
theorem crW_of {x:CP}(h:crlP x):CrW x:=by
 obtain ⟨⟨_,h1,h2,h3,h4,_,h5,_⟩,_⟩:=h
 unfold timeP at h3 h4
 exact ⟨w64_of (by omega) (by omega),w64_of (by omega) (by omega),w64_of (by omega) (by omega),w64_of (by omega) (by omega),w64_of (by omega) (by omega)⟩
def ci2 (p1:Option Addr)(q1 r1:Nat)(p2:Option Addr)(q2 r2:Nat)(p3:Option Addr)(q3 r3:Nat)(x:CP)(l:List Int)(L R G B:Nat):RSpec where
 m:=28
 n:=29
 slots:=[3,4,5,6,7,8,9,10,11,12,13,14,15,16,17,18,19,20,21,22,23,24,25,26,27,28,29,2,100028]
 kills:=[[],[],[],[],[],[],[],[],[],[],[],[],[],[],[],[],[],[],[],[],[],[],[],[],[],[],[],[],[]]
 pres:=[[],[],[],[],[],[],[],[],[],[],[],[],[],[],[],[],[],[],[],[],[],[],[],[],[],[],[],[],[]]
 fact:=fun k v w=>match k with
  | 0=>v=.pointer (some ⟨G,0,none⟩)
  | 1=>v=.agg #[.slice p1 q1 r1]
  | 2=>∃ a1 n1 c1 k1 m1 e1,v=.agg #[.int .i64 (namI x.parts).cls,.int .i64 (namI x.parts).tag,.bool (namI x.parts).cons,.slice a1 n1 c1,.slice k1 m1 e1]∧ItZ L R 6 w (namI x.parts) a1 n1 c1 k1 m1 e1
  | 3=>v=.pointer (some ⟨G,1,none⟩)
  | 4=>v=.int .i64 x.num
  | 5=>∃ a2 n2 c2 k2 m2 e2,v=.agg #[.int .i64 (numI x.num).cls,.int .i64 (numI x.num).tag,.bool (numI x.num).cons,.slice a2 n2 c2,.slice k2 m2 e2]∧ItZ L R 6 w (numI x.num) a2 n2 c2 k2 m2 e2
  | 6=>v=.pointer (some ⟨G,2,none⟩)
  | 7=>v=.int .i64 x.base
  | 8=>∃ a3 n3 c3 k3 m3 e3,v=.agg #[.int .i64 (numI x.base).cls,.int .i64 (numI x.base).tag,.bool (numI x.base).cons,.slice a3 n3 c3,.slice k3 m3 e3]∧ItZ L R 6 w (numI x.base) a3 n3 c3 k3 m3 e3
  | 9=>v=.pointer (some ⟨G,3,none⟩)
  | 10=>v=.int .i64 x.tm
  | 11=>∃ a4 n4 c4 k4 m4 e4,v=.agg #[.int .i64 (numI x.tm).cls,.int .i64 (numI x.tm).tag,.bool (numI x.tm).cons,.slice a4 n4 c4,.slice k4 m4 e4]∧ItZ L R 6 w (numI x.tm) a4 n4 c4 k4 m4 e4
  | 12=>v=.pointer (some ⟨G,4,none⟩)
  | 13=>v=.int .i64 x.next
  | 14=>∃ a5 n5 c5 k5 m5 e5,v=.agg #[.int .i64 (numI x.next).cls,.int .i64 (numI x.next).tag,.bool (numI x.next).cons,.slice a5 n5 c5,.slice k5 m5 e5]∧ItZ L R 6 w (numI x.next) a5 n5 c5 k5 m5 e5
  | 15=>v=.pointer (some ⟨G,5,none⟩)
  | 16=>v=.int .i64 x.scope
  | 17=>∃ a6 n6 c6 k6 m6 e6,v=.agg #[.int .i64 (numI x.scope).cls,.int .i64 (numI x.scope).tag,.bool (numI x.scope).cons,.slice a6 n6 c6,.slice k6 m6 e6]∧ItZ L R 6 w (numI x.scope) a6 n6 c6 k6 m6 e6
  | 18=>v=.pointer (some ⟨G,6,none⟩)
  | 19=>v=.bool x.ind
  | 20=>∃ a7 n7 c7 k7 m7 e7,v=.agg #[.int .i64 (flgI x.ind).cls,.int .i64 (flgI x.ind).tag,.bool (flgI x.ind).cons,.slice a7 n7 c7,.slice k7 m7 e7]∧ItZ L R 6 w (flgI x.ind) a7 n7 c7 k7 m7 e7
  | 21=>v=.pointer (some ⟨G,7,none⟩)
  | 22=>v=.slice p2 q2 r2
  | 23=>∃ a8 n8 c8 k8 m8 e8,v=.agg #[.int .i64 (lstI (x.ents.map goI)).cls,.int .i64 (lstI (x.ents.map goI)).tag,.bool (lstI (x.ents.map goI)).cons,.slice a8 n8 c8,.slice k8 m8 e8]∧ItZ L R 6 w (lstI (x.ents.map goI)) a8 n8 c8 k8 m8 e8
  | 24=>∃ gr,v=.slice (some ⟨gr,0,none⟩) 8 8∧KidZ L R w gr 7 (crK x)
  | 25=>∃ a0 n0 c0 k0 m0 e0,v=.agg #[.int .i64 (boxI 4 (crK x)).cls,.int .i64 (boxI 4 (crK x)).tag,.bool (boxI 4 (crK x)).cons,.slice a0 n0 c0,.slice k0 m0 e0]∧ItZ L R 7 w (boxI 4 (crK x)) a0 n0 c0 k0 m0 e0
  | 26=>∃ a4 c4,v=.slice a4 l.length c4∧Own B w a4 l.length c4 l
  | 27=>∃ a4 c4,v=.slice a4 l.length c4∧Own B w a4 l.length c4 l
  | _=>w.heap[G]? = some (.cells #[.slice p1 q1 r1,.int .i64 x.num,.int .i64 x.base,.int .i64 x.tm,.int .i64 x.next,.int .i64 x.scope,.bool x.ind,.slice p2 q2 r2,.slice p3 q3 r3] 39 (0,0))
theorem ci2_stb (p1:Option Addr)(q1 r1:Nat)(p2:Option Addr)(q2 r2:Nat)(p3:Option Addr)(q3 r3:Nat)(x:CP)(l:List Int)(L R G B:Nat)(k:Nat)(hk:k<29):StB ((ci2 p1 q1 r1 p2 q2 r2 p3 q3 r3 x l L R G (B)).fact k):=by
 match k,hk with
 | 0,_=>exact fun _ _ _ h _=>h
 | 1,_=>exact fun _ _ _ h _=>h
 | 2,_=>exact fun _ _ _ ⟨a1,n1,c1,k1,m1,e1,hv,q_0⟩ hb=>⟨a1,n1,c1,k1,m1,e1,hv,q_0.kept hb⟩
 | 3,_=>exact fun _ _ _ h _=>h
 | 4,_=>exact fun _ _ _ h _=>h
 | 5,_=>exact fun _ _ _ ⟨a2,n2,c2,k2,m2,e2,hv,q_0⟩ hb=>⟨a2,n2,c2,k2,m2,e2,hv,q_0.kept hb⟩
 | 6,_=>exact fun _ _ _ h _=>h
 | 7,_=>exact fun _ _ _ h _=>h
 | 8,_=>exact fun _ _ _ ⟨a3,n3,c3,k3,m3,e3,hv,q_0⟩ hb=>⟨a3,n3,c3,k3,m3,e3,hv,q_0.kept hb⟩
 | 9,_=>exact fun _ _ _ h _=>h
 | 10,_=>exact fun _ _ _ h _=>h
 | 11,_=>exact fun _ _ _ ⟨a4,n4,c4,k4,m4,e4,hv,q_0⟩ hb=>⟨a4,n4,c4,k4,m4,e4,hv,q_0.kept hb⟩
 | 12,_=>exact fun _ _ _ h _=>h
 | 13,_=>exact fun _ _ _ h _=>h
 | 14,_=>exact fun _ _ _ ⟨a5,n5,c5,k5,m5,e5,hv,q_0⟩ hb=>⟨a5,n5,c5,k5,m5,e5,hv,q_0.kept hb⟩
 | 15,_=>exact fun _ _ _ h _=>h
 | 16,_=>exact fun _ _ _ h _=>h
 | 17,_=>exact fun _ _ _ ⟨a6,n6,c6,k6,m6,e6,hv,q_0⟩ hb=>⟨a6,n6,c6,k6,m6,e6,hv,q_0.kept hb⟩
 | 18,_=>exact fun _ _ _ h _=>h
 | 19,_=>exact fun _ _ _ h _=>h
 | 20,_=>exact fun _ _ _ ⟨a7,n7,c7,k7,m7,e7,hv,q_0⟩ hb=>⟨a7,n7,c7,k7,m7,e7,hv,q_0.kept hb⟩
 | 21,_=>exact fun _ _ _ h _=>h
 | 22,_=>exact fun _ _ _ h _=>h
 | 23,_=>exact fun _ _ _ ⟨a8,n8,c8,k8,m8,e8,hv,q_0⟩ hb=>⟨a8,n8,c8,k8,m8,e8,hv,q_0.kept hb⟩
 | 24,_=>exact fun _ _ _ ⟨gr,hv,q_0⟩ hb=>⟨gr,hv,q_0.kept hb⟩
 | 25,_=>exact fun _ _ _ ⟨a0,n0,c0,k0,m0,e0,hv,q_0⟩ hb=>⟨a0,n0,c0,k0,m0,e0,hv,q_0.kept hb⟩
 | 26,_=>exact fun _ _ _ ⟨a4,c4,hv,q_0⟩ hb=>⟨a4,c4,hv,q_0.kept hb⟩
 | 27,_=>exact fun _ _ _ ⟨a4,c4,hv,q_0⟩ hb=>⟨a4,c4,hv,q_0.kept hb⟩
 | 28,_=>exact fun _ _ _ q_0 hb=>below_kept q_0 hb
 | k+29,hk=>omega
theorem crlBody_any (p1:Option Addr)(q1 r1:Nat)(p2:Option Addr)(q2 r2:Nat)(p3:Option Addr)(q3 r3:Nat)(x:CP)(l:List Int)(w:World)(h:Crs w p1 q1 p2 q2 p3 q3 x)(hP:crlP x)(hE:enc 12 (boxI 4 (crK x))=some l) :
  Calls Tryz.prog 21 #[crv p1 q1 r1 p2 q2 r2 p3 q3 r3 x] w fun e w'=>∃ a' c',e=.returned (.slice a' l.length c')∧Own w.heap.size w' a' l.length c' l∧Below w.heap.size w w':=by
 show Calls Tryz.prog 21 #[.agg #[.slice p1 q1 r1,.int .i64 x.num,.int .i64 x.base,.int .i64 x.tm,.int .i64 x.next,.int .i64 x.scope,.bool x.ind,.slice p2 q2 r2,.slice p3 q3 r3]] w _
 obtain ⟨w0,hw0⟩:∃ w0,w0=w.alloc (.cells #[.slice p1 q1 r1,.int .i64 x.num,.int .i64 x.base,.int .i64 x.tm,.int .i64 x.next,.int .i64 x.scope,.bool x.ind,.slice p2 q2 r2,.slice p3 q3 r3] 39):=⟨_,rfl⟩
 have B0:Hid (Below w.heap.size w w0):=by show Below _ _ _; rw [hw0]; exact (Below.refl _ _).alloc (Nat.le_refl _) _
 have L0:Hid (w0.heap[w.heap.size]? = some (.cells #[.slice p1 q1 r1,.int .i64 x.num,.int .i64 x.base,.int .i64 x.tm,.int .i64 x.next,.int .i64 x.scope,.bool x.ind,.slice p2 q2 r2,.slice p3 q3 r3] 39 (0,0))):=by show _=_; rw [hw0]; exact heap_alloc_new w _
 have hl1:=h.nm.len
 have hl2:=h.en.len
 have h60:x.ents.length≤60:=hP.1.2.2.2.2.2.2.2.1
 have hn8:=hP.1.1.1.1
 have HNM:Hid (∀ W,Below w.heap.size w0 W→Calls Tryz.prog 53 #[.agg #[.slice p1 q1 r1]] W fun e w'=>ItR w.heap.size W.heap.size 4 (namI x.parts) e w'∧Below W.heap.size W w'):=fun W hW=>nameItem_R p1 q1 r1 x.parts w.heap.size W (B0.out.trans hW).size (h.nm.kept (B0.out.trans hW)) (fun k hk=>nameW hP.1.1.1 k (by omega)) (by omega)
 have HGL:Hid (∀ W,Below w.heap.size w0 W→Calls Tryz.prog 56 #[.slice p2 q2 r2,.func (Fn.func 57) #[] #[]] W fun e w'=>ItR w.heap.size W.heap.size 6 (lstI (x.ents.map goI)) e w'∧Below W.heap.size W w'):=fun W hW=>listItemGoi_R p2 q2 r2 x.ents w.heap.size W (B0.out.trans hW).size (h.en.kept (B0.out.trans hW)) (fun k hk=>goW_of (hP.2.1 k (by omega))) (by omega)
 have HWB:Hid (CrW x):=crW_of hP
 have HE:Hid (enc 12 (boxI 4 (crK x))=some l):=hE
 have HBB:w.heap.size≤w0.heap.size:=B0.out.size
 have HLW:w.heap.size≤w0.heap.size:=B0.out.size
 have HRR:w0.heap.size≤w0.heap.size:=Nat.le_refl _
 clear h hP hE hl1 hl2 h60 hn8
 go_enter Tryz.func21,Tryz.ntmps21
 go_upto_region 1 with fail
 rw [← hw0]
 clear hw0
 refine wp_region_ri (ci2 p1 q1 r1 p2 q2 r2 p3 q3 r3 x l w.heap.size w0.heap.size w.heap.size (w.heap.size)) [2,3,4,5,6,7,8,9,10,11,12,13,14,15,16,17,18,19,20,21,22,23,24,25,26,27,28,29] (w.heap.size) (fun a0=>a0.tmps.size=30∧aT a0 1=.pointer (some ⟨w.heap.size,0,none⟩)) (by kernel_rfl) rfl (by kernel_rfl) rfl ⟨rfl,rfl⟩ (ci2_stb p1 q1 r1 p2 q2 r2 p3 q3 r3 x l w.heap.size w0.heap.size w.heap.size (w.heap.size)) ?_ ?_ ?_
 ·intro k hk hk2
  match k,hk,hk2 with
  | 28,_,_=>exact L0.out
  | 0,hk,_=>exact absurd hk (by show ¬ (28≤0); omega)
  | 1,hk,_=>exact absurd hk (by show ¬ (28≤1); omega)
  | 2,hk,_=>exact absurd hk (by show ¬ (28≤2); omega)
  | 3,hk,_=>exact absurd hk (by show ¬ (28≤3); omega)
  | 4,hk,_=>exact absurd hk (by show ¬ (28≤4); omega)
  | 5,hk,_=>exact absurd hk (by show ¬ (28≤5); omega)
  | 6,hk,_=>exact absurd hk (by show ¬ (28≤6); omega)
  | 7,hk,_=>exact absurd hk (by show ¬ (28≤7); omega)
  | 8,hk,_=>exact absurd hk (by show ¬ (28≤8); omega)
  | 9,hk,_=>exact absurd hk (by show ¬ (28≤9); omega)
  | 10,hk,_=>exact absurd hk (by show ¬ (28≤10); omega)
  | 11,hk,_=>exact absurd hk (by show ¬ (28≤11); omega)
  | 12,hk,_=>exact absurd hk (by show ¬ (28≤12); omega)
  | 13,hk,_=>exact absurd hk (by show ¬ (28≤13); omega)
  | 14,hk,_=>exact absurd hk (by show ¬ (28≤14); omega)
  | 15,hk,_=>exact absurd hk (by show ¬ (28≤15); omega)
  | 16,hk,_=>exact absurd hk (by show ¬ (28≤16); omega)
  | 17,hk,_=>exact absurd hk (by show ¬ (28≤17); omega)
  | 18,hk,_=>exact absurd hk (by show ¬ (28≤18); omega)
  | 19,hk,_=>exact absurd hk (by show ¬ (28≤19); omega)
  | 20,hk,_=>exact absurd hk (by show ¬ (28≤20); omega)
  | 21,hk,_=>exact absurd hk (by show ¬ (28≤21); omega)
  | 22,hk,_=>exact absurd hk (by show ¬ (28≤22); omega)
  | 23,hk,_=>exact absurd hk (by show ¬ (28≤23); omega)
  | 24,hk,_=>exact absurd hk (by show ¬ (28≤24); omega)
  | 25,hk,_=>exact absurd hk (by show ¬ (28≤25); omega)
  | 26,hk,_=>exact absurd hk (by show ¬ (28≤26); omega)
  | 27,hk,_=>exact absurd hk (by show ¬ (28≤27); omega)
  | k+29,_,hk2=>exact absurd hk2 (by show ¬ (k+29<29); omega)
 ·rintro a0 ⟨hz,g1⟩
  refine StepsRI.cons ?_ (StepsRI.cons ?_ (StepsRI.cons ?_ (StepsRI.cons ?_ (StepsRI.cons ?_ (StepsRI.cons ?_ (StepsRI.cons ?_ (StepsRI.cons ?_ (StepsRI.cons ?_ (StepsRI.cons ?_ (StepsRI.cons ?_ (StepsRI.cons ?_ (StepsRI.cons ?_ (StepsRI.cons ?_ (StepsRI.cons ?_ (StepsRI.cons ?_ (StepsRI.cons ?_ (StepsRI.cons ?_ (StepsRI.cons ?_ (StepsRI.cons ?_ (StepsRI.cons ?_ (StepsRI.cons ?_ (StepsRI.cons ?_ (StepsRI.cons ?_ (StepsRI.cons ?_ (StepsRI.cons ?_ (StepsRI.cons ?_ (StepsRI.cons ?_ (StepsRI.nil))))))))))))))))))))))))))))
  ·intro lQ b W hI hUN hED KQ hKQ
   exact opw_field 39 1 0 rfl _ ((hI.fr.same 1 (by decide)).trans g1) _ (by kernel_rfl) (hKQ.out _ _ (hI.put 0 3 rfl rfl (by rw [hz]; decide) rfl hUN rfl HBB (ci2_stb p1 q1 r1 p2 q2 r2 p3 q3 r3 x l w.heap.size w0.heap.size w.heap.size (w.heap.size)) (Below.refl _ _) rfl))
  ·intro lQ b W hI hUN hED KQ hKQ
   have f:aT b 3=.pointer (some ⟨w.heap.size,0,none⟩):=hI.got 0 (of_decide_eq_true rfl) (edge hED 0 (by kernel_rfl)) rfl
   have hg:=(hI.vot 28 (of_decide_eq_true rfl) (of_decide_eq_true rfl) rfl)
   have hc0:W.cell? ⟨w.heap.size,0,none⟩=some (.slice p1 q1 r1):=(cell_of_row _ _ 0 _ _ (0,0) hg).trans rfl
   exact opw_load1 36 3 rfl _ f _ (by simp [Instr.loadAt,go_sem,hc0]) (hKQ.out _ _ (hI.put 1 4 rfl rfl (by rw [hz]; decide) rfl hUN rfl HBB (ci2_stb p1 q1 r1 p2 q2 r2 p3 q3 r3 x l w.heap.size w0.heap.size w.heap.size (w.heap.size)) (Below.refl _ _) rfl))
  ·intro lQ b W hI hUN hED KQ hKQ
   have f0:aT b 4=.agg #[.slice p1 q1 r1]:=hI.got 1 (of_decide_eq_true rfl) (edge hED 1 (by kernel_rfl)) rfl
   refine opw_call 53 #[.tmp 4] _ _ _ rfl Tryz.func53 (by kernel_rfl) rfl #[.agg #[.slice p1 q1 r1]] (by simp [ev,f0]) ?_
   refine (HNM.out W hI.bel).mono ?_
   rintro r W2 ⟨⟨a1,n1,c1,k1,m1,e1,rfl,hzI⟩,hb⟩
   exact ⟨_,rfl,hKQ.out _ _ (hI.put 2 5 rfl rfl (by rw [hz]; decide) rfl hUN rfl HBB (ci2_stb p1 q1 r1 p2 q2 r2 p3 q3 r3 x l w.heap.size w0.heap.size w.heap.size (w.heap.size)) hb ⟨a1,n1,c1,k1,m1,e1,rfl,(hzI.mono (Nat.le_trans HRR hI.bel.size)).le (by decide)⟩)⟩
  ·intro lQ b W hI hUN hED KQ hKQ
   exact opw_field 39 1 1 rfl _ ((hI.fr.same 1 (by decide)).trans g1) _ (by kernel_rfl) (hKQ.out _ _ (hI.put 3 6 rfl rfl (by rw [hz]; decide) rfl hUN rfl HBB (ci2_stb p1 q1 r1 p2 q2 r2 p3 q3 r3 x l w.heap.size w0.heap.size w.heap.size (w.heap.size)) (Below.refl _ _) rfl))
  ·intro lQ b W hI hUN hED KQ hKQ
   have f:=hI.got 3 (of_decide_eq_true rfl) (edge hED 3 (by kernel_rfl)) rfl
   have hg:=(hI.vot 28 (of_decide_eq_true rfl) (of_decide_eq_true rfl) rfl)
   have hc:W.cell? ⟨w.heap.size,1,none⟩=some (.int .i64 x.num):=(cell_of_row _ _ 1 _ _ (0,0) hg).trans rfl
   exact opw_load1 2 6 rfl _ f _ (by simp [Instr.loadAt,go_sem,hc]) (hKQ.out _ _ (hI.put 4 7 rfl rfl (by rw [hz]; decide) rfl hUN rfl HBB (ci2_stb p1 q1 r1 p2 q2 r2 p3 q3 r3 x l w.heap.size w0.heap.size w.heap.size (w.heap.size)) (Below.refl _ _) rfl))
  ·intro lQ b W hI hUN hED KQ hKQ
   have f0:aT b 7=.int .i64 x.num:=hI.got 4 (of_decide_eq_true rfl) (edge hED 4 (by kernel_rfl)) rfl
   refine opw_call 54 #[.tmp 7] _ _ _ rfl Tryz.func54 (by kernel_rfl) rfl #[.int .i64 x.num] (by simp [ev,f0]) ?_
   refine (numberItem_R x.num w.heap.size W HWB.out.num).mono ?_
   rintro r W2 ⟨⟨a2,n2,c2,k2,m2,e2,rfl,hzI⟩,hb⟩
   exact ⟨_,rfl,hKQ.out _ _ (hI.put 5 8 rfl rfl (by rw [hz]; decide) rfl hUN rfl HBB (ci2_stb p1 q1 r1 p2 q2 r2 p3 q3 r3 x l w.heap.size w0.heap.size w.heap.size (w.heap.size)) hb ⟨a2,n2,c2,k2,m2,e2,rfl,(hzI.mono (Nat.le_trans HRR hI.bel.size)).le (by decide)⟩)⟩
  ·intro lQ b W hI hUN hED KQ hKQ
   exact opw_field 39 1 2 rfl _ ((hI.fr.same 1 (by decide)).trans g1) _ (by kernel_rfl) (hKQ.out _ _ (hI.put 6 9 rfl rfl (by rw [hz]; decide) rfl hUN rfl HBB (ci2_stb p1 q1 r1 p2 q2 r2 p3 q3 r3 x l w.heap.size w0.heap.size w.heap.size (w.heap.size)) (Below.refl _ _) rfl))
  ·intro lQ b W hI hUN hED KQ hKQ
   have f:=hI.got 6 (of_decide_eq_true rfl) (edge hED 6 (by kernel_rfl)) rfl
   have hg:=(hI.vot 28 (of_decide_eq_true rfl) (of_decide_eq_true rfl) rfl)
   have hc:W.cell? ⟨w.heap.size,2,none⟩=some (.int .i64 x.base):=(cell_of_row _ _ 2 _ _ (0,0) hg).trans rfl
   exact opw_load1 2 9 rfl _ f _ (by simp [Instr.loadAt,go_sem,hc]) (hKQ.out _ _ (hI.put 7 10 rfl rfl (by rw [hz]; decide) rfl hUN rfl HBB (ci2_stb p1 q1 r1 p2 q2 r2 p3 q3 r3 x l w.heap.size w0.heap.size w.heap.size (w.heap.size)) (Below.refl _ _) rfl))
  ·intro lQ b W hI hUN hED KQ hKQ
   have f0:aT b 10=.int .i64 x.base:=hI.got 7 (of_decide_eq_true rfl) (edge hED 7 (by kernel_rfl)) rfl
   refine opw_call 54 #[.tmp 10] _ _ _ rfl Tryz.func54 (by kernel_rfl) rfl #[.int .i64 x.base] (by simp [ev,f0]) ?_
   refine (numberItem_R x.base w.heap.size W HWB.out.base).mono ?_
   rintro r W2 ⟨⟨a3,n3,c3,k3,m3,e3,rfl,hzI⟩,hb⟩
   exact ⟨_,rfl,hKQ.out _ _ (hI.put 8 11 rfl rfl (by rw [hz]; decide) rfl hUN rfl HBB (ci2_stb p1 q1 r1 p2 q2 r2 p3 q3 r3 x l w.heap.size w0.heap.size w.heap.size (w.heap.size)) hb ⟨a3,n3,c3,k3,m3,e3,rfl,(hzI.mono (Nat.le_trans HRR hI.bel.size)).le (by decide)⟩)⟩
  ·intro lQ b W hI hUN hED KQ hKQ
   exact opw_field 39 1 3 rfl _ ((hI.fr.same 1 (by decide)).trans g1) _ (by kernel_rfl) (hKQ.out _ _ (hI.put 9 12 rfl rfl (by rw [hz]; decide) rfl hUN rfl HBB (ci2_stb p1 q1 r1 p2 q2 r2 p3 q3 r3 x l w.heap.size w0.heap.size w.heap.size (w.heap.size)) (Below.refl _ _) rfl))
  ·intro lQ b W hI hUN hED KQ hKQ
   have f:=hI.got 9 (of_decide_eq_true rfl) (edge hED 9 (by kernel_rfl)) rfl
   have hg:=(hI.vot 28 (of_decide_eq_true rfl) (of_decide_eq_true rfl) rfl)
   have hc:W.cell? ⟨w.heap.size,3,none⟩=some (.int .i64 x.tm):=(cell_of_row _ _ 3 _ _ (0,0) hg).trans rfl
   exact opw_load1 2 12 rfl _ f _ (by simp [Instr.loadAt,go_sem,hc]) (hKQ.out _ _ (hI.put 10 13 rfl rfl (by rw [hz]; decide) rfl hUN rfl HBB (ci2_stb p1 q1 r1 p2 q2 r2 p3 q3 r3 x l w.heap.size w0.heap.size w.heap.size (w.heap.size)) (Below.refl _ _) rfl))
  ·intro lQ b W hI hUN hED KQ hKQ
   have f0:aT b 13=.int .i64 x.tm:=hI.got 10 (of_decide_eq_true rfl) (edge hED 10 (by kernel_rfl)) rfl
   refine opw_call 54 #[.tmp 13] _ _ _ rfl Tryz.func54 (by kernel_rfl) rfl #[.int .i64 x.tm] (by simp [ev,f0]) ?_
   refine (numberItem_R x.tm w.heap.size W HWB.out.tm).mono ?_
   rintro r W2 ⟨⟨a4,n4,c4,k4,m4,e4,rfl,hzI⟩,hb⟩
   exact ⟨_,rfl,hKQ.out _ _ (hI.put 11 14 rfl rfl (by rw [hz]; decide) rfl hUN rfl HBB (ci2_stb p1 q1 r1 p2 q2 r2 p3 q3 r3 x l w.heap.size w0.heap.size w.heap.size (w.heap.size)) hb ⟨a4,n4,c4,k4,m4,e4,rfl,(hzI.mono (Nat.le_trans HRR hI.bel.size)).le (by decide)⟩)⟩
  ·intro lQ b W hI hUN hED KQ hKQ
   exact opw_field 39 1 4 rfl _ ((hI.fr.same 1 (by decide)).trans g1) _ (by kernel_rfl) (hKQ.out _ _ (hI.put 12 15 rfl rfl (by rw [hz]; decide) rfl hUN rfl HBB (ci2_stb p1 q1 r1 p2 q2 r2 p3 q3 r3 x l w.heap.size w0.heap.size w.heap.size (w.heap.size)) (Below.refl _ _) rfl))
  ·intro lQ b W hI hUN hED KQ hKQ
   have f:=hI.got 12 (of_decide_eq_true rfl) (edge hED 12 (by kernel_rfl)) rfl
   have hg:=(hI.vot 28 (of_decide_eq_true rfl) (of_decide_eq_true rfl) rfl)
   have hc:W.cell? ⟨w.heap.size,4,none⟩=some (.int .i64 x.next):=(cell_of_row _ _ 4 _ _ (0,0) hg).trans rfl
   exact opw_load1 2 15 rfl _ f _ (by simp [Instr.loadAt,go_sem,hc]) (hKQ.out _ _ (hI.put 13 16 rfl rfl (by rw [hz]; decide) rfl hUN rfl HBB (ci2_stb p1 q1 r1 p2 q2 r2 p3 q3 r3 x l w.heap.size w0.heap.size w.heap.size (w.heap.size)) (Below.refl _ _) rfl))
  ·intro lQ b W hI hUN hED KQ hKQ
   have f0:aT b 16=.int .i64 x.next:=hI.got 13 (of_decide_eq_true rfl) (edge hED 13 (by kernel_rfl)) rfl
   refine opw_call 54 #[.tmp 16] _ _ _ rfl Tryz.func54 (by kernel_rfl) rfl #[.int .i64 x.next] (by simp [ev,f0]) ?_
   refine (numberItem_R x.next w.heap.size W HWB.out.next).mono ?_
   rintro r W2 ⟨⟨a5,n5,c5,k5,m5,e5,rfl,hzI⟩,hb⟩
   exact ⟨_,rfl,hKQ.out _ _ (hI.put 14 17 rfl rfl (by rw [hz]; decide) rfl hUN rfl HBB (ci2_stb p1 q1 r1 p2 q2 r2 p3 q3 r3 x l w.heap.size w0.heap.size w.heap.size (w.heap.size)) hb ⟨a5,n5,c5,k5,m5,e5,rfl,(hzI.mono (Nat.le_trans HRR hI.bel.size)).le (by decide)⟩)⟩
  ·intro lQ b W hI hUN hED KQ hKQ
   exact opw_field 39 1 5 rfl _ ((hI.fr.same 1 (by decide)).trans g1) _ (by kernel_rfl) (hKQ.out _ _ (hI.put 15 18 rfl rfl (by rw [hz]; decide) rfl hUN rfl HBB (ci2_stb p1 q1 r1 p2 q2 r2 p3 q3 r3 x l w.heap.size w0.heap.size w.heap.size (w.heap.size)) (Below.refl _ _) rfl))
  ·intro lQ b W hI hUN hED KQ hKQ
   have f:=hI.got 15 (of_decide_eq_true rfl) (edge hED 15 (by kernel_rfl)) rfl
   have hg:=(hI.vot 28 (of_decide_eq_true rfl) (of_decide_eq_true rfl) rfl)
   have hc:W.cell? ⟨w.heap.size,5,none⟩=some (.int .i64 x.scope):=(cell_of_row _ _ 5 _ _ (0,0) hg).trans rfl
   exact opw_load1 2 18 rfl _ f _ (by simp [Instr.loadAt,go_sem,hc]) (hKQ.out _ _ (hI.put 16 19 rfl rfl (by rw [hz]; decide) rfl hUN rfl HBB (ci2_stb p1 q1 r1 p2 q2 r2 p3 q3 r3 x l w.heap.size w0.heap.size w.heap.size (w.heap.size)) (Below.refl _ _) rfl))
  ·intro lQ b W hI hUN hED KQ hKQ
   have f0:aT b 19=.int .i64 x.scope:=hI.got 16 (of_decide_eq_true rfl) (edge hED 16 (by kernel_rfl)) rfl
   refine opw_call 54 #[.tmp 19] _ _ _ rfl Tryz.func54 (by kernel_rfl) rfl #[.int .i64 x.scope] (by simp [ev,f0]) ?_
   refine (numberItem_R x.scope w.heap.size W HWB.out.scope).mono ?_
   rintro r W2 ⟨⟨a6,n6,c6,k6,m6,e6,rfl,hzI⟩,hb⟩
   exact ⟨_,rfl,hKQ.out _ _ (hI.put 17 20 rfl rfl (by rw [hz]; decide) rfl hUN rfl HBB (ci2_stb p1 q1 r1 p2 q2 r2 p3 q3 r3 x l w.heap.size w0.heap.size w.heap.size (w.heap.size)) hb ⟨a6,n6,c6,k6,m6,e6,rfl,(hzI.mono (Nat.le_trans HRR hI.bel.size)).le (by decide)⟩)⟩
  ·intro lQ b W hI hUN hED KQ hKQ
   exact opw_field 39 1 6 rfl _ ((hI.fr.same 1 (by decide)).trans g1) _ (by kernel_rfl) (hKQ.out _ _ (hI.put 18 21 rfl rfl (by rw [hz]; decide) rfl hUN rfl HBB (ci2_stb p1 q1 r1 p2 q2 r2 p3 q3 r3 x l w.heap.size w0.heap.size w.heap.size (w.heap.size)) (Below.refl _ _) rfl))
  ·intro lQ b W hI hUN hED KQ hKQ
   have f:=hI.got 18 (of_decide_eq_true rfl) (edge hED 18 (by kernel_rfl)) rfl
   have hg:=(hI.vot 28 (of_decide_eq_true rfl) (of_decide_eq_true rfl) rfl)
   have hc:W.cell? ⟨w.heap.size,6,none⟩=some (.bool x.ind):=(cell_of_row _ _ 6 _ _ (0,0) hg).trans rfl
   exact opw_load1 4 21 rfl _ f _ (by simp [Instr.loadAt,go_sem,hc]) (hKQ.out _ _ (hI.put 19 22 rfl rfl (by rw [hz]; decide) rfl hUN rfl HBB (ci2_stb p1 q1 r1 p2 q2 r2 p3 q3 r3 x l w.heap.size w0.heap.size w.heap.size (w.heap.size)) (Below.refl _ _) rfl))
  ·intro lQ b W hI hUN hED KQ hKQ
   have f0:aT b 22=.bool x.ind:=hI.got 19 (of_decide_eq_true rfl) (edge hED 19 (by kernel_rfl)) rfl
   refine opw_call 55 #[.tmp 22] _ _ _ rfl Tryz.func55 (by kernel_rfl) rfl #[.bool x.ind] (by simp [ev,f0]) ?_
   refine (flagItem_R x.ind W w.heap.size (Nat.le_trans HLW hI.bel.size)).mono ?_
   rintro r W2 ⟨⟨a7,n7,c7,k7,m7,e7,rfl,hzI⟩,hb⟩
   exact ⟨_,rfl,hKQ.out _ _ (hI.put 20 23 rfl rfl (by rw [hz]; decide) rfl hUN rfl HBB (ci2_stb p1 q1 r1 p2 q2 r2 p3 q3 r3 x l w.heap.size w0.heap.size w.heap.size (w.heap.size)) hb ⟨a7,n7,c7,k7,m7,e7,rfl,(hzI.mono (Nat.le_trans HRR hI.bel.size)).le (by decide)⟩)⟩
  ·intro lQ b W hI hUN hED KQ hKQ
   exact opw_field 39 1 7 rfl _ ((hI.fr.same 1 (by decide)).trans g1) _ (by kernel_rfl) (hKQ.out _ _ (hI.put 21 24 rfl rfl (by rw [hz]; decide) rfl hUN rfl HBB (ci2_stb p1 q1 r1 p2 q2 r2 p3 q3 r3 x l w.heap.size w0.heap.size w.heap.size (w.heap.size)) (Below.refl _ _) rfl))
  ·intro lQ b W hI hUN hED KQ hKQ
   have f:=hI.got 21 (of_decide_eq_true rfl) (edge hED 21 (by kernel_rfl)) rfl
   have hg:=(hI.vot 28 (of_decide_eq_true rfl) (of_decide_eq_true rfl) rfl)
   have hc:W.cell? ⟨w.heap.size,7,none⟩=some (.slice p2 q2 r2):=(cell_of_row _ _ 7 _ _ (0,0) hg).trans rfl
   exact opw_load1 37 24 rfl _ f _ (by simp [Instr.loadAt,go_sem,hc]) (hKQ.out _ _ (hI.put 22 25 rfl rfl (by rw [hz]; decide) rfl hUN rfl HBB (ci2_stb p1 q1 r1 p2 q2 r2 p3 q3 r3 x l w.heap.size w0.heap.size w.heap.size (w.heap.size)) (Below.refl _ _) rfl))
  ·intro lQ b W hI hUN hED KQ hKQ
   have f0:aT b 25=.slice p2 q2 r2:=hI.got 22 (of_decide_eq_true rfl) (edge hED 22 (by kernel_rfl)) rfl
   refine opw_call 56 #[.tmp 25,.func 57] _ _ _ rfl Tryz.func56 (by kernel_rfl) rfl #[.slice p2 q2 r2,.func (Fn.func 57) #[] #[]] (by simp [ev,f0]; rfl) ?_
   refine (HGL.out W hI.bel).mono ?_
   rintro r W2 ⟨⟨a8,n8,c8,k8,m8,e8,rfl,hzI⟩,hb⟩
   exact ⟨_,rfl,hKQ.out _ _ (hI.put 23 26 rfl rfl (by rw [hz]; decide) rfl hUN rfl HBB (ci2_stb p1 q1 r1 p2 q2 r2 p3 q3 r3 x l w.heap.size w0.heap.size w.heap.size (w.heap.size)) hb ⟨a8,n8,c8,k8,m8,e8,rfl,(hzI.mono (Nat.le_trans HRR hI.bel.size)).le (by decide)⟩)⟩
  ·intro lQ b W hI hUN hED KQ hKQ
   obtain ⟨a1,n1,c1,k1,m1,e1,f1,o1⟩:=hI.got 2 (of_decide_eq_true rfl) (edge hED 2 (by kernel_rfl)) rfl
   replace f1:aT b 5=.agg #[.int .i64 (namI x.parts).cls,.int .i64 (namI x.parts).tag,.bool (namI x.parts).cons,.slice a1 n1 c1,.slice k1 m1 e1]:=f1
   obtain ⟨a2,n2,c2,k2,m2,e2,f2,o2⟩:=hI.got 5 (of_decide_eq_true rfl) (edge hED 5 (by kernel_rfl)) rfl
   replace f2:aT b 8=.agg #[.int .i64 (numI x.num).cls,.int .i64 (numI x.num).tag,.bool (numI x.num).cons,.slice a2 n2 c2,.slice k2 m2 e2]:=f2
   obtain ⟨a3,n3,c3,k3,m3,e3,f3,o3⟩:=hI.got 8 (of_decide_eq_true rfl) (edge hED 8 (by kernel_rfl)) rfl
   replace f3:aT b 11=.agg #[.int .i64 (numI x.base).cls,.int .i64 (numI x.base).tag,.bool (numI x.base).cons,.slice a3 n3 c3,.slice k3 m3 e3]:=f3
   obtain ⟨a4,n4,c4,k4,m4,e4,f4,o4⟩:=hI.got 11 (of_decide_eq_true rfl) (edge hED 11 (by kernel_rfl)) rfl
   replace f4:aT b 14=.agg #[.int .i64 (numI x.tm).cls,.int .i64 (numI x.tm).tag,.bool (numI x.tm).cons,.slice a4 n4 c4,.slice k4 m4 e4]:=f4
   obtain ⟨a5,n5,c5,k5,m5,e5,f5,o5⟩:=hI.got 14 (of_decide_eq_true rfl) (edge hED 14 (by kernel_rfl)) rfl
   replace f5:aT b 17=.agg #[.int .i64 (numI x.next).cls,.int .i64 (numI x.next).tag,.bool (numI x.next).cons,.slice a5 n5 c5,.slice k5 m5 e5]:=f5
   obtain ⟨a6,n6,c6,k6,m6,e6,f6,o6⟩:=hI.got 17 (of_decide_eq_true rfl) (edge hED 17 (by kernel_rfl)) rfl
   replace f6:aT b 20=.agg #[.int .i64 (numI x.scope).cls,.int .i64 (numI x.scope).tag,.bool (numI x.scope).cons,.slice a6 n6 c6,.slice k6 m6 e6]:=f6
   obtain ⟨a7,n7,c7,k7,m7,e7,f7,o7⟩:=hI.got 20 (of_decide_eq_true rfl) (edge hED 20 (by kernel_rfl)) rfl
   replace f7:aT b 23=.agg #[.int .i64 (flgI x.ind).cls,.int .i64 (flgI x.ind).tag,.bool (flgI x.ind).cons,.slice a7 n7 c7,.slice k7 m7 e7]:=f7
   obtain ⟨a8,n8,c8,k8,m8,e8,f8,o8⟩:=hI.got 23 (of_decide_eq_true rfl) (edge hED 23 (by kernel_rfl)) rfl
   replace f8:aT b 26=.agg #[.int .i64 (lstI (x.ents.map goI)).cls,.int .i64 (lstI (x.ents.map goI)).tag,.bool (lstI (x.ents.map goI)).cons,.slice a8 n8 c8,.slice k8 m8 e8]:=f8
   refine opw_buildSliceT _ 8 _ rfl #[(0,.agg #[.int .i64 (namI x.parts).cls,.int .i64 (namI x.parts).tag,.bool (namI x.parts).cons,.slice a1 n1 c1,.slice k1 m1 e1]),(1,.agg #[.int .i64 (numI x.num).cls,.int .i64 (numI x.num).tag,.bool (numI x.num).cons,.slice a2 n2 c2,.slice k2 m2 e2]),(2,.agg #[.int .i64 (numI x.base).cls,.int .i64 (numI x.base).tag,.bool (numI x.base).cons,.slice a3 n3 c3,.slice k3 m3 e3]),(3,.agg #[.int .i64 (numI x.tm).cls,.int .i64 (numI x.tm).tag,.bool (numI x.tm).cons,.slice a4 n4 c4,.slice k4 m4 e4]),(4,.agg #[.int .i64 (numI x.next).cls,.int .i64 (numI x.next).tag,.bool (numI x.next).cons,.slice a5 n5 c5,.slice k5 m5 e5]),(5,.agg #[.int .i64 (numI x.scope).cls,.int .i64 (numI x.scope).tag,.bool (numI x.scope).cons,.slice a6 n6 c6,.slice k6 m6 e6]),(6,.agg #[.int .i64 (flgI x.ind).cls,.int .i64 (flgI x.ind).tag,.bool (flgI x.ind).cons,.slice a7 n7 c7,.slice k7 m7 e7]),(7,.agg #[.int .i64 (lstI (x.ents.map goI)).cls,.int .i64 (lstI (x.ents.map goI)).tag,.bool (lstI (x.ents.map goI)).cons,.slice a8 n8 c8,.slice k8 m8 e8])] (by simp [ev,f1,f2,f3,f4,f5,f6,f7,f8]) (.slice (some ⟨W.heap.size,0,none⟩) 8 8) (W.alloc (.cells #[.int .i64 (namI x.parts).cls,.int .i64 (namI x.parts).tag,.bool (namI x.parts).cons,.slice a1 n1 c1,.slice k1 m1 e1,.int .i64 (numI x.num).cls,.int .i64 (numI x.num).tag,.bool (numI x.num).cons,.slice a2 n2 c2,.slice k2 m2 e2,.int .i64 (numI x.base).cls,.int .i64 (numI x.base).tag,.bool (numI x.base).cons,.slice a3 n3 c3,.slice k3 m3 e3,.int .i64 (numI x.tm).cls,.int .i64 (numI x.tm).tag,.bool (numI x.tm).cons,.slice a4 n4 c4,.slice k4 m4 e4,.int .i64 (numI x.next).cls,.int .i64 (numI x.next).tag,.bool (numI x.next).cons,.slice a5 n5 c5,.slice k5 m5 e5,.int .i64 (numI x.scope).cls,.int .i64 (numI x.scope).tag,.bool (numI x.scope).cons,.slice a6 n6 c6,.slice k6 m6 e6,.int .i64 (flgI x.ind).cls,.int .i64 (flgI x.ind).tag,.bool (flgI x.ind).cons,.slice a7 n7 c7,.slice k7 m7 e7,.int .i64 (lstI (x.ents.map goI)).cls,.int .i64 (lstI (x.ents.map goI)).tag,.bool (lstI (x.ents.map goI)).cons,.slice a8 n8 c8,.slice k8 m8 e8] 81)) (by kernel_rfl) ?_
   exact hKQ.out _ _ (hI.put 24 27 rfl rfl (by rw [hz]; decide) rfl hUN rfl HBB (ci2_stb p1 q1 r1 p2 q2 r2 p3 q3 r3 x l w.heap.size w0.heap.size w.heap.size (w.heap.size)) ((Below.refl _ _).alloc (Nat.le_refl _) _) ⟨W.heap.size,rfl,kidZ_n8 (Nat.le_trans HRR hI.bel.size) o1 o2 o3 o4 o5 o6 o7 o8⟩)
  ·intro lQ b W hI hUN hED KQ hKQ
   obtain ⟨gr,f0,o0⟩:=hI.got 24 (of_decide_eq_true rfl) (edge hED 24 (by kernel_rfl)) rfl
   replace f0:aT b 27=.slice (some ⟨gr,0,none⟩) 8 8:=f0
   refine opw_call 52 #[.const (.int .i64 4),.tmp 27] _ _ _ rfl Tryz.func52 (by kernel_rfl) rfl #[.int .i64 4,.slice (some ⟨gr,0,none⟩) 8 8] (by simp [ev,evc,f0]) ?_
   refine (ownItem_R 4 o0 rfl).mono ?_
   rintro r W2 ⟨⟨a0,n0,c0,k0,m0,e0,rfl,hzI⟩,hb⟩
   exact ⟨_,rfl,hKQ.out _ _ (hI.put 25 28 rfl rfl (by rw [hz]; decide) rfl hUN rfl HBB (ci2_stb p1 q1 r1 p2 q2 r2 p3 q3 r3 x l w.heap.size w0.heap.size w.heap.size (w.heap.size)) hb ⟨a0,n0,c0,k0,m0,e0,rfl,hzI⟩)⟩
  ·intro lQ b W hI hUN hED KQ hKQ
   obtain ⟨a0,n0,c0,k0,m0,e0,f0,o0⟩:=hI.got 25 (of_decide_eq_true rfl) (edge hED 25 (by kernel_rfl)) rfl
   replace f0:aT b 28=.agg #[.int .i64 (boxI 4 (crK x)).cls,.int .i64 (boxI 4 (crK x)).tag,.bool (boxI 4 (crK x)).cons,.slice a0 n0 c0,.slice k0 m0 e0]:=f0
   refine opw_call 51 #[.tmp 28] _ _ _ rfl Tryz.func51 (by kernel_rfl) rfl #[.agg #[.int .i64 (boxI 4 (crK x)).cls,.int .i64 (boxI 4 (crK x)).tag,.bool (boxI 4 (crK x)).cons,.slice a0 n0 c0,.slice k0 m0 e0]] (by simp [ev,f0]) ?_
   refine (longAt_all 7 12 (boxI 4 (crK x)) l a0 n0 c0 k0 m0 e0 W HE.out o0.it.row.row o0.it.nil o0.it.kids.kids).mono ?_
   rintro r W2 ⟨a4,c4,rfl,ho,hb⟩
   exact ⟨_,rfl,hKQ.out _ _ (hI.put 26 29 rfl rfl (by rw [hz]; decide) rfl hUN rfl HBB (ci2_stb p1 q1 r1 p2 q2 r2 p3 q3 r3 x l w.heap.size w0.heap.size w.heap.size (w.heap.size)) hb ⟨a4,c4,rfl,ho.mono (Nat.le_trans HBB hI.bel.size)⟩)⟩
  ·intro lQ b W hI hUN hED KQ hKQ
   have f:=hI.got 26 (of_decide_eq_true rfl) (edge hED 26 (by kernel_rfl)) rfl
   exact opw_assign 29 rfl (hKQ.out _ _ (hI.put 27 2 rfl rfl (by rw [hz]; decide) rfl hUN rfl HBB (ci2_stb p1 q1 r1 p2 q2 r2 p3 q3 r3 x l w.heap.size w0.heap.size w.heap.size (w.heap.size)) (Below.refl _ _) f))
 ·intro b W hf hb F
  obtain ⟨a4,c4,e2,ho⟩:=F 27 (of_decide_eq_true rfl) rfl
  replace e2:aT b 2=.slice a4 l.length c4:=e2
  rw [hf.eq]
  simp only [puts,Act.put,List.setIfInBounds_toArray,List.set_cons_zero,List.set_cons_succ,e2]
  clear hf F e2
  generalize aT b=AT
  clear b
  go_wp2
  go_ret
  exact ⟨a4,c4,rfl,ho,B0.out.trans hb⟩
open Go.RowKit Go.Sort
def ci3r (y:GP)(an:Option Addr)(nn cn:Nat)(ao:Option Addr)(kq cc:Nat)(es0:List It)(Q R G B:Nat):RSpec where
 m:=18
 n:=21
 slots:=[19,20,21,22,23,24,25,26,27,28,29,30,31,32,33,34,35,3,100018,100019,3]
 kills:=[[],[],[],[],[],[],[],[],[],[],[],[],[],[],[],[],[],[],[],[16],[17]]
 pres:=[[],[],[],[],[],[],[],[],[],[],[],[],[],[],[],[],[0],[16],[],[],[]]
 fact:=fun k v w=>match k with
  | 0=>v=.slice ao kq cc
  | 1=>v=.pointer (some ⟨G,0,none⟩)
  | 2=>v=.agg #[.slice an nn cn]
  | 3=>∃ a1 n1 c1 k1 m1 e1,v=.agg #[.int .i64 (namI y.parts).cls,.int .i64 (namI y.parts).tag,.bool (namI y.parts).cons,.slice a1 n1 c1,.slice k1 m1 e1]∧ItZ 0 Q 4 w (namI y.parts) a1 n1 c1 k1 m1 e1
  | 4=>v=.pointer (some ⟨G,1,none⟩)
  | 5=>v=.int .i64 y.ser
  | 6=>∃ a2 n2 c2 k2 m2 e2,v=.agg #[.int .i64 (numI y.ser).cls,.int .i64 (numI y.ser).tag,.bool (numI y.ser).cons,.slice a2 n2 c2,.slice k2 m2 e2]∧ItZ 0 Q 4 w (numI y.ser) a2 n2 c2 k2 m2 e2
  | 7=>v=.pointer (some ⟨G,2,none⟩)
  | 8=>v=.int .i64 y.tm
  | 9=>∃ a3 n3 c3 k3 m3 e3,v=.agg #[.int .i64 (numI y.tm).cls,.int .i64 (numI y.tm).tag,.bool (numI y.tm).cons,.slice a3 n3 c3,.slice k3 m3 e3]∧ItZ 0 Q 4 w (numI y.tm) a3 n3 c3 k3 m3 e3
  | 10=>v=.pointer (some ⟨G,3,none⟩)
  | 11=>v=.int .i64 y.rs
  | 12=>∃ a4 n4 c4 k4 m4 e4,v=.agg #[.int .i64 (numI y.rs).cls,.int .i64 (numI y.rs).tag,.bool (numI y.rs).cons,.slice a4 n4 c4,.slice k4 m4 e4]∧ItZ 0 Q 4 w (numI y.rs) a4 n4 c4 k4 m4 e4
  | 13=>∃ gr,v=.slice (some ⟨gr,0,none⟩) 4 4∧KidZ 0 Q w gr 5 [namI y.parts,numI y.ser,numI y.tm,numI y.rs]
  | 14=>∃ a0 n0 c0 k0 m0 e0,v=.agg #[.int .i64 (goI y).cls,.int .i64 (goI y).tag,.bool (goI y).cons,.slice a0 n0 c0,.slice k0 m0 e0]∧ItZ 0 Q 5 w (goI y) a0 n0 c0 k0 m0 e0
  | 15=>∃ g8 a0 n0 c0 k0 m0 e0,v=.slice (some ⟨g8,0,none⟩) 1 1∧w.heap[g8]? = some (.cells #[.int .i64 (goI y).cls,.int .i64 (goI y).tag,.bool (goI y).cons,.slice a0 n0 c0,.slice k0 m0 e0] 81 (0,0))∧ItZ 0 Q 5 w (goI y) a0 n0 c0 k0 m0 e0∧Q≤g8
  | 16=>∃ gf cf,v=.slice (some ⟨gf,0,none⟩) (kq+1) cf∧OwnItZ 5 0 R w (some ⟨gf,0,none⟩) (kq+1) cf (es0++[goI y])
  | 17=>∃ gf cf,v=.slice (some ⟨gf,0,none⟩) (kq+1) cf∧OwnItZ 5 0 R w (some ⟨gf,0,none⟩) (kq+1) cf (es0++[goI y])
  | 18=>w.heap[G]? = some (.cells #[.slice an nn cn,.int .i64 y.ser,.int .i64 y.tm,.int .i64 y.rs] 65 (0,0))
  | 19=>OwnItZ 5 0 R w ao kq cc es0
  | _=>v=.slice ao kq cc
theorem ci3r_stb (y:GP)(an:Option Addr)(nn cn:Nat)(ao:Option Addr)(kq cc:Nat)(es0:List It)(Q R G B:Nat)(k:Nat)(hk:k<21):StB ((ci3r y an nn cn ao kq cc es0 Q R G (B)).fact k):=by
 match k,hk with
 | 0,_=>exact fun _ _ _ h _=>h
 | 1,_=>exact fun _ _ _ h _=>h
 | 2,_=>exact fun _ _ _ h _=>h
 | 3,_=>exact fun _ _ _ ⟨a1,n1,c1,k1,m1,e1,hv,q_0⟩ hb=>⟨a1,n1,c1,k1,m1,e1,hv,q_0.kept hb⟩
 | 4,_=>exact fun _ _ _ h _=>h
 | 5,_=>exact fun _ _ _ h _=>h
 | 6,_=>exact fun _ _ _ ⟨a2,n2,c2,k2,m2,e2,hv,q_0⟩ hb=>⟨a2,n2,c2,k2,m2,e2,hv,q_0.kept hb⟩
 | 7,_=>exact fun _ _ _ h _=>h
 | 8,_=>exact fun _ _ _ h _=>h
 | 9,_=>exact fun _ _ _ ⟨a3,n3,c3,k3,m3,e3,hv,q_0⟩ hb=>⟨a3,n3,c3,k3,m3,e3,hv,q_0.kept hb⟩
 | 10,_=>exact fun _ _ _ h _=>h
 | 11,_=>exact fun _ _ _ h _=>h
 | 12,_=>exact fun _ _ _ ⟨a4,n4,c4,k4,m4,e4,hv,q_0⟩ hb=>⟨a4,n4,c4,k4,m4,e4,hv,q_0.kept hb⟩
 | 13,_=>exact fun _ _ _ ⟨gr,hv,q_0⟩ hb=>⟨gr,hv,q_0.kept hb⟩
 | 14,_=>exact fun _ _ _ ⟨a0,n0,c0,k0,m0,e0,hv,q_0⟩ hb=>⟨a0,n0,c0,k0,m0,e0,hv,q_0.kept hb⟩
 | 15,_=>exact fun _ _ _ ⟨g8,a0,n0,c0,k0,m0,e0,hv,q_0,q_1,q_2⟩ hb=>⟨g8,a0,n0,c0,k0,m0,e0,hv,below_kept q_0 hb,q_1.kept hb,q_2⟩
 | 16,_=>exact fun _ _ _ ⟨gf,cf,hv,q_0⟩ hb=>⟨gf,cf,hv,q_0.kept hb⟩
 | 17,_=>exact fun _ _ _ ⟨gf,cf,hv,q_0⟩ hb=>⟨gf,cf,hv,q_0.kept hb⟩
 | 18,_=>exact fun _ _ _ q_0 hb=>below_kept q_0 hb
 | 19,_=>exact fun _ _ _ q_0 hb=>q_0.kept hb
 | 20,_=>exact fun _ _ _ h _=>h
 | k+21,hk=>omega
def ci3b (p1:Option Addr)(q1 r1:Nat)(p2:Option Addr)(q2 r2:Nat)(p3:Option Addr)(q3 r3:Nat)(x:CP)(ao:Option Addr)(cc:Nat)(l:List Int)(L R G B:Nat):RSpec where
 m:=27
 n:=29
 slots:=[36,37,38,39,40,41,42,43,44,45,46,47,48,49,50,51,52,53,54,55,56,57,58,59,60,61,2,100027,100028]
 kills:=[[],[],[],[],[],[],[],[],[],[],[],[],[],[],[],[],[],[],[],[],[],[],[],[],[],[],[],[],[]]
 pres:=[[],[],[],[],[],[],[],[],[],[],[],[],[],[],[],[],[],[],[],[],[],[],[],[],[],[],[],[],[]]
 fact:=fun k v w=>match k with
  | 0=>v=.pointer (some ⟨G,0,none⟩)
  | 1=>v=.agg #[.slice p1 q1 r1]
  | 2=>∃ a1 n1 c1 k1 m1 e1,v=.agg #[.int .i64 (namI x.parts).cls,.int .i64 (namI x.parts).tag,.bool (namI x.parts).cons,.slice a1 n1 c1,.slice k1 m1 e1]∧ItZ L R 6 w (namI x.parts) a1 n1 c1 k1 m1 e1
  | 3=>v=.pointer (some ⟨G,1,none⟩)
  | 4=>v=.int .i64 x.num
  | 5=>∃ a2 n2 c2 k2 m2 e2,v=.agg #[.int .i64 (numI x.num).cls,.int .i64 (numI x.num).tag,.bool (numI x.num).cons,.slice a2 n2 c2,.slice k2 m2 e2]∧ItZ L R 6 w (numI x.num) a2 n2 c2 k2 m2 e2
  | 6=>v=.pointer (some ⟨G,2,none⟩)
  | 7=>v=.int .i64 x.base
  | 8=>∃ a3 n3 c3 k3 m3 e3,v=.agg #[.int .i64 (numI x.base).cls,.int .i64 (numI x.base).tag,.bool (numI x.base).cons,.slice a3 n3 c3,.slice k3 m3 e3]∧ItZ L R 6 w (numI x.base) a3 n3 c3 k3 m3 e3
  | 9=>v=.pointer (some ⟨G,3,none⟩)
  | 10=>v=.int .i64 x.tm
  | 11=>∃ a4 n4 c4 k4 m4 e4,v=.agg #[.int .i64 (numI x.tm).cls,.int .i64 (numI x.tm).tag,.bool (numI x.tm).cons,.slice a4 n4 c4,.slice k4 m4 e4]∧ItZ L R 6 w (numI x.tm) a4 n4 c4 k4 m4 e4
  | 12=>v=.pointer (some ⟨G,4,none⟩)
  | 13=>v=.int .i64 x.next
  | 14=>∃ a5 n5 c5 k5 m5 e5,v=.agg #[.int .i64 (numI x.next).cls,.int .i64 (numI x.next).tag,.bool (numI x.next).cons,.slice a5 n5 c5,.slice k5 m5 e5]∧ItZ L R 6 w (numI x.next) a5 n5 c5 k5 m5 e5
  | 15=>v=.pointer (some ⟨G,5,none⟩)
  | 16=>v=.int .i64 x.scope
  | 17=>∃ a6 n6 c6 k6 m6 e6,v=.agg #[.int .i64 (numI x.scope).cls,.int .i64 (numI x.scope).tag,.bool (numI x.scope).cons,.slice a6 n6 c6,.slice k6 m6 e6]∧ItZ L R 6 w (numI x.scope) a6 n6 c6 k6 m6 e6
  | 18=>v=.pointer (some ⟨G,6,none⟩)
  | 19=>v=.bool x.ind
  | 20=>∃ a7 n7 c7 k7 m7 e7,v=.agg #[.int .i64 (flgI x.ind).cls,.int .i64 (flgI x.ind).tag,.bool (flgI x.ind).cons,.slice a7 n7 c7,.slice k7 m7 e7]∧ItZ L R 6 w (flgI x.ind) a7 n7 c7 k7 m7 e7
  | 21=>v=.slice ao q2 cc
  | 22=>∃ a8 n8 c8 k8 m8 e8,v=.agg #[.int .i64 (lstI (x.ents.map goI)).cls,.int .i64 (lstI (x.ents.map goI)).tag,.bool (lstI (x.ents.map goI)).cons,.slice a8 n8 c8,.slice k8 m8 e8]∧ItZ L R 6 w (lstI (x.ents.map goI)) a8 n8 c8 k8 m8 e8
  | 23=>∃ gr,v=.slice (some ⟨gr,0,none⟩) 8 8∧KidZ L R w gr 7 (crK x)
  | 24=>∃ a0 n0 c0 k0 m0 e0,v=.agg #[.int .i64 (boxI 4 (crK x)).cls,.int .i64 (boxI 4 (crK x)).tag,.bool (boxI 4 (crK x)).cons,.slice a0 n0 c0,.slice k0 m0 e0]∧ItZ L R 7 w (boxI 4 (crK x)) a0 n0 c0 k0 m0 e0
  | 25=>∃ a4 c4,v=.slice a4 l.length c4∧Own B w a4 l.length c4 l
  | 26=>∃ a4 c4,v=.slice a4 l.length c4∧Own B w a4 l.length c4 l
  | 27=>w.heap[G]? = some (.cells #[.slice p1 q1 r1,.int .i64 x.num,.int .i64 x.base,.int .i64 x.tm,.int .i64 x.next,.int .i64 x.scope,.bool x.ind,.slice p2 q2 r2,.slice p3 q3 r3] 39 (0,0))
  | _=>ListZ L R 6 w ao q2 (x.ents.map goI)
theorem ci3b_stb (p1:Option Addr)(q1 r1:Nat)(p2:Option Addr)(q2 r2:Nat)(p3:Option Addr)(q3 r3:Nat)(x:CP)(ao:Option Addr)(cc:Nat)(l:List Int)(L R G B:Nat)(k:Nat)(hk:k<29):StB ((ci3b p1 q1 r1 p2 q2 r2 p3 q3 r3 x ao cc l L R G (B)).fact k):=by
 match k,hk with
 | 0,_=>exact fun _ _ _ h _=>h
 | 1,_=>exact fun _ _ _ h _=>h
 | 2,_=>exact fun _ _ _ ⟨a1,n1,c1,k1,m1,e1,hv,q_0⟩ hb=>⟨a1,n1,c1,k1,m1,e1,hv,q_0.kept hb⟩
 | 3,_=>exact fun _ _ _ h _=>h
 | 4,_=>exact fun _ _ _ h _=>h
 | 5,_=>exact fun _ _ _ ⟨a2,n2,c2,k2,m2,e2,hv,q_0⟩ hb=>⟨a2,n2,c2,k2,m2,e2,hv,q_0.kept hb⟩
 | 6,_=>exact fun _ _ _ h _=>h
 | 7,_=>exact fun _ _ _ h _=>h
 | 8,_=>exact fun _ _ _ ⟨a3,n3,c3,k3,m3,e3,hv,q_0⟩ hb=>⟨a3,n3,c3,k3,m3,e3,hv,q_0.kept hb⟩
 | 9,_=>exact fun _ _ _ h _=>h
 | 10,_=>exact fun _ _ _ h _=>h
 | 11,_=>exact fun _ _ _ ⟨a4,n4,c4,k4,m4,e4,hv,q_0⟩ hb=>⟨a4,n4,c4,k4,m4,e4,hv,q_0.kept hb⟩
 | 12,_=>exact fun _ _ _ h _=>h
 | 13,_=>exact fun _ _ _ h _=>h
 | 14,_=>exact fun _ _ _ ⟨a5,n5,c5,k5,m5,e5,hv,q_0⟩ hb=>⟨a5,n5,c5,k5,m5,e5,hv,q_0.kept hb⟩
 | 15,_=>exact fun _ _ _ h _=>h
 | 16,_=>exact fun _ _ _ h _=>h
 | 17,_=>exact fun _ _ _ ⟨a6,n6,c6,k6,m6,e6,hv,q_0⟩ hb=>⟨a6,n6,c6,k6,m6,e6,hv,q_0.kept hb⟩
 | 18,_=>exact fun _ _ _ h _=>h
 | 19,_=>exact fun _ _ _ h _=>h
 | 20,_=>exact fun _ _ _ ⟨a7,n7,c7,k7,m7,e7,hv,q_0⟩ hb=>⟨a7,n7,c7,k7,m7,e7,hv,q_0.kept hb⟩
 | 21,_=>exact fun _ _ _ h _=>h
 | 22,_=>exact fun _ _ _ ⟨a8,n8,c8,k8,m8,e8,hv,q_0⟩ hb=>⟨a8,n8,c8,k8,m8,e8,hv,q_0.kept hb⟩
 | 23,_=>exact fun _ _ _ ⟨gr,hv,q_0⟩ hb=>⟨gr,hv,q_0.kept hb⟩
 | 24,_=>exact fun _ _ _ ⟨a0,n0,c0,k0,m0,e0,hv,q_0⟩ hb=>⟨a0,n0,c0,k0,m0,e0,hv,q_0.kept hb⟩
 | 25,_=>exact fun _ _ _ ⟨a4,c4,hv,q_0⟩ hb=>⟨a4,c4,hv,q_0.kept hb⟩
 | 26,_=>exact fun _ _ _ ⟨a4,c4,hv,q_0⟩ hb=>⟨a4,c4,hv,q_0.kept hb⟩
 | 27,_=>exact fun _ _ _ q_0 hb=>below_kept q_0 hb
 | 28,_=>exact fun _ _ _ q_0 hb=>q_0.kept hb
 | k+29,hk=>omega
theorem GoiS_next (xs:List GP)(k:Nat)(h:k<xs.length):(xs.take (k+1)).map goI=(xs.take k).map goI++[goI (xs.getD k default)]:=by
 rw [List.take_add_one,List.map_append]
 simp [h]
theorem l10Body_any (p1:Option Addr)(q1 r1:Nat)(p2:Option Addr)(q2 r2:Nat)(p3:Option Addr)(q3 r3:Nat)(x:CP)(l:List Int)(w:World)(h:Crs w p1 q1 p2 q2 p3 q3 x)(hP:crlP x)(hE:enc 12 (boxI 4 (crK x))=some l) :
  Calls Tryz.prog 15 #[crv p1 q1 r1 p2 q2 r2 p3 q3 r3 x] w fun e w'=>∃ a' c',e=.returned (.slice a' l.length c')∧Own w.heap.size w' a' l.length c' l∧Below w.heap.size w w':=by
 show Calls Tryz.prog 15 #[.agg #[.slice p1 q1 r1,.int .i64 x.num,.int .i64 x.base,.int .i64 x.tm,.int .i64 x.next,.int .i64 x.scope,.bool x.ind,.slice p2 q2 r2,.slice p3 q3 r3]] w _
 obtain ⟨i0,hi,hz0,hz1,hz2⟩:=info_parts Tryz.infoIt
 obtain ⟨w1,hw1⟩:∃ w1,w1=w.alloc (.cells #[.slice p1 q1 r1,.int .i64 x.num,.int .i64 x.base,.int .i64 x.tm,.int .i64 x.next,.int .i64 x.scope,.bool x.ind,.slice p2 q2 r2,.slice p3 q3 r3] 39):=⟨_,rfl⟩
 have hbx:Below w.heap.size w w1:=by rw [hw1]; exact (Below.refl _ _).alloc (Nat.le_refl _) _
 have HB1:Hid (w1.heap[w.heap.size]? = some (.cells #[.slice p1 q1 r1,.int .i64 x.num,.int .i64 x.base,.int .i64 x.tm,.int .i64 x.next,.int .i64 x.scope,.bool x.ind,.slice p2 q2 r2,.slice p3 q3 r3] 39 (0,0))):=by show _=_; rw [hw1]; exact heap_alloc_new w _
 have hszl:w.heap.size<w1.heap.size:=(Array.getElem?_eq_some_iff.1 HB1.out).1
 have hl1:=h.nm.len
 have hl2:=h.en.len
 have h60:x.ents.length≤60:=hP.1.2.2.2.2.2.2.2.1
 have hn8:=hP.1.1.1.1
 have H0:Hid (Gns w1 p2 q2 x.ents):=h.en.kept hbx
 have HLX:Hid (x.ents.length=q2):=hl2
 have hn2:q2≤1000:=by omega
 have HVS:Hid (∀ k,k<q2→GoS (x.ents.getD k default)):=fun k hk=>goS_of (hP.2.1 k (by omega))
 have HNA:Hid (∀ W,Below w.heap.size w W→Calls Tryz.prog 37 #[.agg #[.slice p1 q1 r1]] W fun e w'=>ItR 0 W.heap.size 4 (namI x.parts) e w'∧Below W.heap.size W w'):=fun W hW=>l9Name_R p1 q1 r1 x.parts W (h.nm.kept hW) (by omega) (fun k hk=>by have:=(hP.1.1.1.2 k (by omega)).2.1; omega)
 have HE:Hid (enc 12 (boxI 4 (crK x))=some l):=hE
 have HW:Hid (_=_):=hw1
 have hbE:Below w1.heap.size w1 (w1.alloc (.cells #[] 81)):=(Below.refl _ _).alloc (Nat.le_refl _) _
 have HO0:Hid (OwnItZ 5 0 w1.heap.size (w1.alloc (.cells #[] 81)) (some ⟨w1.heap.size,0,none⟩) 0 0 ((x.ents.take 0).map goI)):=ownItZ_empty 5 0 w1
 clear h hP hE hl1 hl2 h60 hn8 hw1
 go_enter Tryz.func15,Tryz.ntmps15
 go_upto_region 1 with fail
 rw [← HW.out]
 clear HW
 go_wp2
 go_loopw [3,4] (fun o i wr=>∃ (kq:Nat) (ao:Option Addr) (cc:Nat),kq≤q2∧i=.int .i64 kq∧o=.slice ao kq cc∧Hid (OwnItZ 5 0 w1.heap.size wr ao kq cc ((x.ents.take kq).map goI))∧Below w1.heap.size w1 wr) (fun _ i _=>q2 - (intOf i).toNat)
 case atStart=>exact ⟨0,_,0,Nat.zero_le _,rfl,rfl,HO0,hbE⟩
 case round =>
  obtain ⟨kq,ao,cc,hk,rfl,rfl,HO,hbr⟩:=hrel
  have hws:=hbr.size
  have HBX:Hid (wr.heap[w.heap.size]? = some (.cells #[.slice p1 q1 r1,.int .i64 x.num,.int .i64 x.base,.int .i64 x.tm,.int .i64 x.next,.int .i64 x.scope,.bool x.ind,.slice p2 q2 r2,.slice p3 q3 r3] 39 (0,0))):=below_kept HB1.out hbr
  have x7:wr.cell? ⟨w.heap.size,7,none⟩=some (.slice p2 q2 r2):=(cell_of_row _ _ 7 _ _ (0,0) HBX.out).trans rfl
  have hltw:w.heap.size<wr.heap.size:=by omega
  by_cases hkn:kq<q2
  ·obtain ⟨b0,off,an,nn,cn,hA,hlb,hc,hp⟩:=H0.out.get kq hkn
   subst hA
   obtain ⟨y,hy⟩:∃ y,y=x.ents.getD kq default:=⟨_,rfl⟩
   rw [← hy] at hc hp
   have hvy:GoS y:=by rw [hy]; exact HVS.out kq hkn
   have HNN:nn≤1000:=by rw [← hp.len]; exact hvy.1
   have HPV:∀ k,k<nn→(y.parts.getD k default).val.size≤1000:=fun k hk=>hvy.2 k (by rw [hp.len]; exact hk)
   obtain ⟨es0,hes⟩:∃ es0,es0=(x.ents.take kq).map goI:=⟨_,rfl⟩
   have HXK:Hid ((x.ents.take (kq+1)).map goI=es0++[goI y]):=by show _=_; rw [hes,hy]; exact GoiS_next x.ents kq (by rw [HLX.out]; exact hkn)
   obtain ⟨wq,hwq⟩:∃ wq,wq=wr.alloc (.cells #[.slice an nn cn,.int .i64 y.ser,.int .i64 y.tm,.int .i64 y.rs] 65):=⟨_,rfl⟩
   have hbq:Below wr.heap.size wr wq:=by rw [hwq]; exact (Below.refl _ _).alloc (Nat.le_refl _) _
   have hsq:wr.heap.size<wq.heap.size:=by rw [hwq]; simp
   have hb1:Below w1.heap.size w1 wq:=hbr.trans (hbq.mono hws)
   have HBR:Hid (wq.heap[wr.heap.size]? = some (.cells #[.slice an nn cn,.int .i64 y.ser,.int .i64 y.tm,.int .i64 y.rs] 65 (0,0))):=by show _=_; rw [hwq]; exact heap_alloc_new wr _
   have HOR:Hid (OwnItZ 5 0 w1.heap.size wq ao kq cc es0):=by show OwnItZ _ _ _ _ _ _ _ _; rw [hes]; exact HO.out.kept hbq
   have hown:∀ b,(Value.slice ao kq cc).ownBlock=some b→b<wr.heap.size:=fun b hb=>by obtain ⟨vs0,hv0⟩:=HO.out.row; exact (hv0.lt b hb).2
   have HOWN:Hid (∀ b,(Value.slice ao kq cc).ownBlock=some b→0≤b∧b<wq.heap.size):=fun b hb=>⟨Nat.zero_le _,by have:=hown b hb; omega⟩
   have HNG:Hid (∀ b,(Value.slice ao kq cc).ownBlock=some b→b≠wr.heap.size):=fun b hb=>by have:=hown b hb; omega
   have HPT:Hid (∀ W,Below w1.heap.size wq W→Pts W an nn y.parts):=fun W hW=>hp.kept (hb1.trans hW)
   have HBB:w1.heap.size≤wq.heap.size:=hb1.size
   have HQR:w1.heap.size≤wq.heap.size:=hb1.size
   have hkni:(kq:Int)<(q2:Int):=by omega
   have hlbw:b0<wr.heap.size:=by omega
   obtain ⟨c0,d1,d2,d3⟩:=hc.of (w':=wr) (fun i=>hbr.cell (p:=⟨b0,i,none⟩) hlb)
   have HWQ:Hid (_=_):=hwq
   clear hy hc hes HO hp hvy hwq hown
   go_upto_region 6 with fail
   rw [← HWQ.out]
   clear c0 d1 d2 d3 HWQ x7
   refine wp_region_ri (ci3r y an nn cn ao kq cc es0 wq.heap.size w1.heap.size wr.heap.size (w1.heap.size)) [3,19,20,21,22,23,24,25,26,27,28,29,30,31,32,33,34,35] (w1.heap.size) (fun a0=>a0.tmps.size=62∧aT a0 5=.pointer (some ⟨wr.heap.size,0,none⟩)) (by kernel_rfl) rfl (by kernel_rfl) rfl ⟨rfl,rfl⟩ (ci3r_stb y an nn cn ao kq cc es0 wq.heap.size w1.heap.size wr.heap.size (w1.heap.size)) ?_ ?_ ?_
   ·intro k hk hk2
    match k,hk,hk2 with
    | 18,_,_=>exact HBR.out
    | 19,_,_=>exact HOR.out
    | 20,_,_=>exact rfl
    | 0,hk,_=>exact absurd hk (by show ¬ (18≤0); omega)
    | 1,hk,_=>exact absurd hk (by show ¬ (18≤1); omega)
    | 2,hk,_=>exact absurd hk (by show ¬ (18≤2); omega)
    | 3,hk,_=>exact absurd hk (by show ¬ (18≤3); omega)
    | 4,hk,_=>exact absurd hk (by show ¬ (18≤4); omega)
    | 5,hk,_=>exact absurd hk (by show ¬ (18≤5); omega)
    | 6,hk,_=>exact absurd hk (by show ¬ (18≤6); omega)
    | 7,hk,_=>exact absurd hk (by show ¬ (18≤7); omega)
    | 8,hk,_=>exact absurd hk (by show ¬ (18≤8); omega)
    | 9,hk,_=>exact absurd hk (by show ¬ (18≤9); omega)
    | 10,hk,_=>exact absurd hk (by show ¬ (18≤10); omega)
    | 11,hk,_=>exact absurd hk (by show ¬ (18≤11); omega)
    | 12,hk,_=>exact absurd hk (by show ¬ (18≤12); omega)
    | 13,hk,_=>exact absurd hk (by show ¬ (18≤13); omega)
    | 14,hk,_=>exact absurd hk (by show ¬ (18≤14); omega)
    | 15,hk,_=>exact absurd hk (by show ¬ (18≤15); omega)
    | 16,hk,_=>exact absurd hk (by show ¬ (18≤16); omega)
    | 17,hk,_=>exact absurd hk (by show ¬ (18≤17); omega)
    | k+21,_,hk2=>exact absurd hk2 (by show ¬ (k+21<21); omega)
   ·rintro a0 ⟨hz,g5⟩
    refine StepsRI.cons ?_ (StepsRI.cons ?_ (StepsRI.cons ?_ (StepsRI.cons ?_ (StepsRI.cons ?_ (StepsRI.cons ?_ (StepsRI.cons ?_ (StepsRI.cons ?_ (StepsRI.cons ?_ (StepsRI.cons ?_ (StepsRI.cons ?_ (StepsRI.cons ?_ (StepsRI.cons ?_ (StepsRI.cons ?_ (StepsRI.cons ?_ (StepsRI.cons ?_ (StepsRI.cons ?_ (StepsRI.cons ?_ (StepsRI.nil))))))))))))))))))
    ·intro lQ b W hI hUN hED KQ hKQ
     have huA:lQ 17=false:=unT fun h=>by
      have h2:=hI.cl 16 (of_decide_eq_true rfl) (hI.cl 17 (of_decide_eq_true rfl) h 16 (List.Mem.head _)) 0 (List.Mem.head _)
      rw [show lQ 0=false from hUN] at h2
      cases h2
     have f:aT b 3=.slice ao kq cc:=hI.vot1 20 17 (of_decide_eq_true rfl) (of_decide_eq_true rfl) huA rfl
     exact opw_move 3 rfl (hKQ.out _ _ (hI.put 0 19 rfl rfl (by rw [hz]; decide) rfl hUN rfl HBB (ci3r_stb y an nn cn ao kq cc es0 wq.heap.size w1.heap.size wr.heap.size (w1.heap.size)) (Below.refl _ _) f))
    ·intro lQ b W hI hUN hED KQ hKQ
     exact opw_field 65 5 0 rfl _ ((hI.fr.same 5 (by decide)).trans g5) _ (by kernel_rfl) (hKQ.out _ _ (hI.put 1 20 rfl rfl (by rw [hz]; decide) rfl hUN rfl HBB (ci3r_stb y an nn cn ao kq cc es0 wq.heap.size w1.heap.size wr.heap.size (w1.heap.size)) (Below.refl _ _) rfl))
    ·intro lQ b W hI hUN hED KQ hKQ
     have f:aT b 20=.pointer (some ⟨wr.heap.size,0,none⟩):=hI.got 1 (of_decide_eq_true rfl) (edge hED 1 (by kernel_rfl)) rfl
     have hg:=(hI.vot 18 (of_decide_eq_true rfl) (of_decide_eq_true rfl) rfl)
     have hc0:W.cell? ⟨wr.heap.size,0,none⟩=some (.slice an nn cn):=(cell_of_row _ _ 0 _ _ (0,0) hg).trans rfl
     exact opw_load1 36 20 rfl _ f _ (by simp [Instr.loadAt,go_sem,hc0]) (hKQ.out _ _ (hI.put 2 21 rfl rfl (by rw [hz]; decide) rfl hUN rfl HBB (ci3r_stb y an nn cn ao kq cc es0 wq.heap.size w1.heap.size wr.heap.size (w1.heap.size)) (Below.refl _ _) rfl))
    ·intro lQ b W hI hUN hED KQ hKQ
     have f0:aT b 21=.agg #[.slice an nn cn]:=hI.got 2 (of_decide_eq_true rfl) (edge hED 2 (by kernel_rfl)) rfl
     refine opw_call 37 #[.tmp 21] _ _ _ rfl Tryz.func37 (by kernel_rfl) rfl #[.agg #[.slice an nn cn]] (by simp [ev,f0]) ?_
     refine (l9Name_R an nn cn y.parts W (HPT.out W hI.bel) HNN HPV).mono ?_
     rintro r W2 ⟨⟨a1,n1,c1,k1,m1,e1,rfl,hzI⟩,hb⟩
     exact ⟨_,rfl,hKQ.out _ _ (hI.put 3 22 rfl rfl (by rw [hz]; decide) rfl hUN rfl HBB (ci3r_stb y an nn cn ao kq cc es0 wq.heap.size w1.heap.size wr.heap.size (w1.heap.size)) hb ⟨a1,n1,c1,k1,m1,e1,rfl,((hzI.mono hI.bel.size).le (by decide))⟩)⟩
    ·intro lQ b W hI hUN hED KQ hKQ
     exact opw_field 65 5 1 rfl _ ((hI.fr.same 5 (by decide)).trans g5) _ (by kernel_rfl) (hKQ.out _ _ (hI.put 4 23 rfl rfl (by rw [hz]; decide) rfl hUN rfl HBB (ci3r_stb y an nn cn ao kq cc es0 wq.heap.size w1.heap.size wr.heap.size (w1.heap.size)) (Below.refl _ _) rfl))
    ·intro lQ b W hI hUN hED KQ hKQ
     have f:=hI.got 4 (of_decide_eq_true rfl) (edge hED 4 (by kernel_rfl)) rfl
     have hg:=(hI.vot 18 (of_decide_eq_true rfl) (of_decide_eq_true rfl) rfl)
     have hc:W.cell? ⟨wr.heap.size,1,none⟩=some (.int .i64 y.ser):=(cell_of_row _ _ 1 _ _ (0,0) hg).trans rfl
     exact opw_load1 2 23 rfl _ f _ (by simp [Instr.loadAt,go_sem,hc]) (hKQ.out _ _ (hI.put 5 24 rfl rfl (by rw [hz]; decide) rfl hUN rfl HBB (ci3r_stb y an nn cn ao kq cc es0 wq.heap.size w1.heap.size wr.heap.size (w1.heap.size)) (Below.refl _ _) rfl))
    ·intro lQ b W hI hUN hED KQ hKQ
     have f0:aT b 24=.int .i64 y.ser:=hI.got 5 (of_decide_eq_true rfl) (edge hED 5 (by kernel_rfl)) rfl
     refine opw_call 38 #[.tmp 24] _ _ _ rfl Tryz.func38 (by kernel_rfl) rfl #[.int .i64 y.ser] (by simp [ev,f0]) ?_
     refine (l9Num_R y.ser 0 W).mono ?_
     rintro r W2 ⟨⟨a2,n2,c2,k2,m2,e2,rfl,hzI⟩,hb⟩
     exact ⟨_,rfl,hKQ.out _ _ (hI.put 6 25 rfl rfl (by rw [hz]; decide) rfl hUN rfl HBB (ci3r_stb y an nn cn ao kq cc es0 wq.heap.size w1.heap.size wr.heap.size (w1.heap.size)) hb ⟨a2,n2,c2,k2,m2,e2,rfl,((hzI.mono hI.bel.size).le (by decide))⟩)⟩
    ·intro lQ b W hI hUN hED KQ hKQ
     exact opw_field 65 5 2 rfl _ ((hI.fr.same 5 (by decide)).trans g5) _ (by kernel_rfl) (hKQ.out _ _ (hI.put 7 26 rfl rfl (by rw [hz]; decide) rfl hUN rfl HBB (ci3r_stb y an nn cn ao kq cc es0 wq.heap.size w1.heap.size wr.heap.size (w1.heap.size)) (Below.refl _ _) rfl))
    ·intro lQ b W hI hUN hED KQ hKQ
     have f:=hI.got 7 (of_decide_eq_true rfl) (edge hED 7 (by kernel_rfl)) rfl
     have hg:=(hI.vot 18 (of_decide_eq_true rfl) (of_decide_eq_true rfl) rfl)
     have hc:W.cell? ⟨wr.heap.size,2,none⟩=some (.int .i64 y.tm):=(cell_of_row _ _ 2 _ _ (0,0) hg).trans rfl
     exact opw_load1 2 26 rfl _ f _ (by simp [Instr.loadAt,go_sem,hc]) (hKQ.out _ _ (hI.put 8 27 rfl rfl (by rw [hz]; decide) rfl hUN rfl HBB (ci3r_stb y an nn cn ao kq cc es0 wq.heap.size w1.heap.size wr.heap.size (w1.heap.size)) (Below.refl _ _) rfl))
    ·intro lQ b W hI hUN hED KQ hKQ
     have f0:aT b 27=.int .i64 y.tm:=hI.got 8 (of_decide_eq_true rfl) (edge hED 8 (by kernel_rfl)) rfl
     refine opw_call 38 #[.tmp 27] _ _ _ rfl Tryz.func38 (by kernel_rfl) rfl #[.int .i64 y.tm] (by simp [ev,f0]) ?_
     refine (l9Num_R y.tm 0 W).mono ?_
     rintro r W2 ⟨⟨a3,n3,c3,k3,m3,e3,rfl,hzI⟩,hb⟩
     exact ⟨_,rfl,hKQ.out _ _ (hI.put 9 28 rfl rfl (by rw [hz]; decide) rfl hUN rfl HBB (ci3r_stb y an nn cn ao kq cc es0 wq.heap.size w1.heap.size wr.heap.size (w1.heap.size)) hb ⟨a3,n3,c3,k3,m3,e3,rfl,((hzI.mono hI.bel.size).le (by decide))⟩)⟩
    ·intro lQ b W hI hUN hED KQ hKQ
     exact opw_field 65 5 3 rfl _ ((hI.fr.same 5 (by decide)).trans g5) _ (by kernel_rfl) (hKQ.out _ _ (hI.put 10 29 rfl rfl (by rw [hz]; decide) rfl hUN rfl HBB (ci3r_stb y an nn cn ao kq cc es0 wq.heap.size w1.heap.size wr.heap.size (w1.heap.size)) (Below.refl _ _) rfl))
    ·intro lQ b W hI hUN hED KQ hKQ
     have f:=hI.got 10 (of_decide_eq_true rfl) (edge hED 10 (by kernel_rfl)) rfl
     have hg:=(hI.vot 18 (of_decide_eq_true rfl) (of_decide_eq_true rfl) rfl)
     have hc:W.cell? ⟨wr.heap.size,3,none⟩=some (.int .i64 y.rs):=(cell_of_row _ _ 3 _ _ (0,0) hg).trans rfl
     exact opw_load1 2 29 rfl _ f _ (by simp [Instr.loadAt,go_sem,hc]) (hKQ.out _ _ (hI.put 11 30 rfl rfl (by rw [hz]; decide) rfl hUN rfl HBB (ci3r_stb y an nn cn ao kq cc es0 wq.heap.size w1.heap.size wr.heap.size (w1.heap.size)) (Below.refl _ _) rfl))
    ·intro lQ b W hI hUN hED KQ hKQ
     have f0:aT b 30=.int .i64 y.rs:=hI.got 11 (of_decide_eq_true rfl) (edge hED 11 (by kernel_rfl)) rfl
     refine opw_call 38 #[.tmp 30] _ _ _ rfl Tryz.func38 (by kernel_rfl) rfl #[.int .i64 y.rs] (by simp [ev,f0]) ?_
     refine (l9Num_R y.rs 0 W).mono ?_
     rintro r W2 ⟨⟨a4,n4,c4,k4,m4,e4,rfl,hzI⟩,hb⟩
     exact ⟨_,rfl,hKQ.out _ _ (hI.put 12 31 rfl rfl (by rw [hz]; decide) rfl hUN rfl HBB (ci3r_stb y an nn cn ao kq cc es0 wq.heap.size w1.heap.size wr.heap.size (w1.heap.size)) hb ⟨a4,n4,c4,k4,m4,e4,rfl,((hzI.mono hI.bel.size).le (by decide))⟩)⟩
    ·intro lQ b W hI hUN hED KQ hKQ
     obtain ⟨a1,n1,c1,k1,m1,e1,f1,o1⟩:=hI.got 3 (of_decide_eq_true rfl) (edge hED 3 (by kernel_rfl)) rfl
     replace f1:aT b 22=.agg #[.int .i64 (namI y.parts).cls,.int .i64 (namI y.parts).tag,.bool (namI y.parts).cons,.slice a1 n1 c1,.slice k1 m1 e1]:=f1
     obtain ⟨a2,n2,c2,k2,m2,e2,f2,o2⟩:=hI.got 6 (of_decide_eq_true rfl) (edge hED 6 (by kernel_rfl)) rfl
     replace f2:aT b 25=.agg #[.int .i64 (numI y.ser).cls,.int .i64 (numI y.ser).tag,.bool (numI y.ser).cons,.slice a2 n2 c2,.slice k2 m2 e2]:=f2
     obtain ⟨a3,n3,c3,k3,m3,e3,f3,o3⟩:=hI.got 9 (of_decide_eq_true rfl) (edge hED 9 (by kernel_rfl)) rfl
     replace f3:aT b 28=.agg #[.int .i64 (numI y.tm).cls,.int .i64 (numI y.tm).tag,.bool (numI y.tm).cons,.slice a3 n3 c3,.slice k3 m3 e3]:=f3
     obtain ⟨a4,n4,c4,k4,m4,e4,f4,o4⟩:=hI.got 12 (of_decide_eq_true rfl) (edge hED 12 (by kernel_rfl)) rfl
     replace f4:aT b 31=.agg #[.int .i64 (numI y.rs).cls,.int .i64 (numI y.rs).tag,.bool (numI y.rs).cons,.slice a4 n4 c4,.slice k4 m4 e4]:=f4
     refine opw_buildSliceT _ 4 _ rfl #[(0,.agg #[.int .i64 (namI y.parts).cls,.int .i64 (namI y.parts).tag,.bool (namI y.parts).cons,.slice a1 n1 c1,.slice k1 m1 e1]),(1,.agg #[.int .i64 (numI y.ser).cls,.int .i64 (numI y.ser).tag,.bool (numI y.ser).cons,.slice a2 n2 c2,.slice k2 m2 e2]),(2,.agg #[.int .i64 (numI y.tm).cls,.int .i64 (numI y.tm).tag,.bool (numI y.tm).cons,.slice a3 n3 c3,.slice k3 m3 e3]),(3,.agg #[.int .i64 (numI y.rs).cls,.int .i64 (numI y.rs).tag,.bool (numI y.rs).cons,.slice a4 n4 c4,.slice k4 m4 e4])] (by simp [ev,f1,f2,f3,f4]) (.slice (some ⟨W.heap.size,0,none⟩) 4 4) (W.alloc (.cells #[.int .i64 (namI y.parts).cls,.int .i64 (namI y.parts).tag,.bool (namI y.parts).cons,.slice a1 n1 c1,.slice k1 m1 e1,.int .i64 (numI y.ser).cls,.int .i64 (numI y.ser).tag,.bool (numI y.ser).cons,.slice a2 n2 c2,.slice k2 m2 e2,.int .i64 (numI y.tm).cls,.int .i64 (numI y.tm).tag,.bool (numI y.tm).cons,.slice a3 n3 c3,.slice k3 m3 e3,.int .i64 (numI y.rs).cls,.int .i64 (numI y.rs).tag,.bool (numI y.rs).cons,.slice a4 n4 c4,.slice k4 m4 e4] 81)) (by kernel_rfl) ?_
     exact hKQ.out _ _ (hI.put 13 32 rfl rfl (by rw [hz]; decide) rfl hUN rfl HBB (ci3r_stb y an nn cn ao kq cc es0 wq.heap.size w1.heap.size wr.heap.size (w1.heap.size)) ((Below.refl _ _).alloc (Nat.le_refl _) _) ⟨W.heap.size,rfl,kidZ_n4 hI.bel.size o1 o2 o3 o4⟩)
    ·intro lQ b W hI hUN hED KQ hKQ
     obtain ⟨gr,f0,o0⟩:=hI.got 13 (of_decide_eq_true rfl) (edge hED 13 (by kernel_rfl)) rfl
     replace f0:aT b 32=.slice (some ⟨gr,0,none⟩) 4 4:=f0
     refine opw_call 36 #[.tmp 32] _ _ _ rfl Tryz.func36 (by kernel_rfl) rfl #[.slice (some ⟨gr,0,none⟩) 4 4] (by simp [ev,f0]) ?_
     refine (l9Struct_R o0 rfl).mono ?_
     rintro r W2 ⟨⟨a0,n0,c0,k0,m0,e0,rfl,hzI⟩,hb⟩
     exact ⟨_,rfl,hKQ.out _ _ (hI.put 14 33 rfl rfl (by rw [hz]; decide) rfl hUN rfl HBB (ci3r_stb y an nn cn ao kq cc es0 wq.heap.size w1.heap.size wr.heap.size (w1.heap.size)) hb ⟨a0,n0,c0,k0,m0,e0,rfl,hzI⟩)⟩
    ·intro lQ b W hI hUN hED KQ hKQ
     obtain ⟨a0,n0,c0,k0,m0,e0,f0,o0⟩:=hI.got 14 (of_decide_eq_true rfl) (edge hED 14 (by kernel_rfl)) rfl
     replace f0:aT b 33=.agg #[.int .i64 (goI y).cls,.int .i64 (goI y).tag,.bool (goI y).cons,.slice a0 n0 c0,.slice k0 m0 e0]:=f0
     refine opw_buildSliceT _ 1 _ rfl #[(0,.agg #[.int .i64 (goI y).cls,.int .i64 (goI y).tag,.bool (goI y).cons,.slice a0 n0 c0,.slice k0 m0 e0])] (by simp [ev,f0]) (.slice (some ⟨W.heap.size,0,none⟩) 1 1) (W.alloc (.cells #[.int .i64 (goI y).cls,.int .i64 (goI y).tag,.bool (goI y).cons,.slice a0 n0 c0,.slice k0 m0 e0] 81)) (by kernel_rfl) ?_
     have hbA:Below W.heap.size W (W.alloc (.cells #[.int .i64 (goI y).cls,.int .i64 (goI y).tag,.bool (goI y).cons,.slice a0 n0 c0,.slice k0 m0 e0] 81)):=(Below.refl _ _).alloc (Nat.le_refl _) _
     exact hKQ.out _ _ (hI.put 15 34 rfl rfl (by rw [hz]; decide) rfl hUN rfl HBB (ci3r_stb y an nn cn ao kq cc es0 wq.heap.size w1.heap.size wr.heap.size (w1.heap.size)) hbA ⟨W.heap.size,a0,n0,c0,k0,m0,e0,rfl,heap_alloc_new W _,o0.kept hbA,hI.bel.size⟩)
    ·intro lQ b W hI hUN hED KQ hKQ
     obtain ⟨g8,a0,n0,c0,k0,m0,e0,f1,hg8,o1,_⟩:=hI.got 15 (of_decide_eq_true rfl) (edge hED 15 (by kernel_rfl)) rfl
     have f0:aT b 19=.slice ao kq cc:=hI.got 0 (of_decide_eq_true rfl) (edge hED 0 (by kernel_rfl)) rfl
     have hits:OwnItZ 5 0 w1.heap.size W ao kq cc es0:=hI.vot1 19 16 (of_decide_eq_true rfl) (of_decide_eq_true rfl) hUN rfl
     replace f1:aT b 34=.slice (some ⟨g8,0,none⟩) 1 1:=f1
     obtain ⟨vs,hrow⟩:=hits.row
     have hWs:=hI.bel.size
     refine wp_append_lies W (.tmp 19) (.tmp 34) 79 rfl 0 81 i0 _ 5 72 Tryz.underlying79 hi hz0 hz1 hz2 rfl (by decide) (.slice ao kq cc) kq vs f0 hrow ⟨g8,0,none⟩ 1 1 [.int .i64 (goI y).cls,.int .i64 (goI y).tag,.bool (goI y).cons,.slice a0 n0 c0,.slice k0 m0 e0] f1 rfl (World.news_of_block hg8) (by intro u hu; simp only [List.mem_cons,List.not_mem_nil,or_false] at hu; rcases hu with rfl | rfl | rfl | rfl | rfl <;> rfl) (by decide) (by unfold maxLen; omega) (by omega) (Nat.zero_le _) _ rfl ?_
     intro gf cf w' hv hg hl hlt
     have hnew:OwnItZ 5 0 w1.heap.size w' (some ⟨gf,0,none⟩) (kq+1) cf (es0++[goI y]):=hits.appended o1.it (fun b hb=>⟨by have:=hb.1; have:=HQR; omega,hb.2,fun e=>by have:=HOWN.out b e; have:=hb.1; omega⟩) (by omega) hrow hv hg hl (by have:=HBB; omega)
     have hb':Below w1.heap.size wq w':=hI.bel.grown hg (by have:=HBB; omega) (fun kx hx=>hits.2 kx hx)
     have hno:lQ 17=true→False:=fun h=>by
      have h2:=hI.cl 17 (of_decide_eq_true rfl) h 16 (List.Mem.head _)
      rw [show lQ 16=false from hUN] at h2
      cases h2
     refine hKQ.out _ _ (hI.turn 16 35 (fun j hj=>by rcases List.mem_singleton.1 hj with rfl; exact edge hED 0 (by kernel_rfl)) rfl (by rw [hz]; decide) rfl hUN rfl hb' ?_ ⟨gf,cf,rfl,hnew⟩)
     intro kx hkx hne hlk hkill u hu
     match kx,hkx,hne,hkill,hu with
      | 0,_,_,_,hu=>exact hu
      | 1,_,_,_,hu=>exact hu
      | 2,_,_,_,hu=>exact hu
      | 3,_,_,_,⟨a1,n1,c1,k1,m1,e1,hv,q_0⟩=>exact ⟨a1,n1,c1,k1,m1,e1,hv,q_0.grown hg (fun j hj=>HOWN.out j hj)⟩
      | 4,_,_,_,hu=>exact hu
      | 5,_,_,_,hu=>exact hu
      | 6,_,_,_,⟨a2,n2,c2,k2,m2,e2,hv,q_0⟩=>exact ⟨a2,n2,c2,k2,m2,e2,hv,q_0.grown hg (fun j hj=>HOWN.out j hj)⟩
      | 7,_,_,_,hu=>exact hu
      | 8,_,_,_,hu=>exact hu
      | 9,_,_,_,⟨a3,n3,c3,k3,m3,e3,hv,q_0⟩=>exact ⟨a3,n3,c3,k3,m3,e3,hv,q_0.grown hg (fun j hj=>HOWN.out j hj)⟩
      | 10,_,_,_,hu=>exact hu
      | 11,_,_,_,hu=>exact hu
      | 12,_,_,_,⟨a4,n4,c4,k4,m4,e4,hv,q_0⟩=>exact ⟨a4,n4,c4,k4,m4,e4,hv,q_0.grown hg (fun j hj=>HOWN.out j hj)⟩
      | 13,_,_,_,⟨gr,hv,q_0⟩=>exact ⟨gr,hv,q_0.grown hg (fun j hj=>HOWN.out j hj)⟩
      | 14,_,_,_,⟨a0,n0,c0,k0,m0,e0,hv,q_0⟩=>exact ⟨a0,n0,c0,k0,m0,e0,hv,q_0.grown hg (fun j hj=>HOWN.out j hj)⟩
      | 15,_,_,_,⟨g8,a0,n0,c0,k0,m0,e0,hv,q_0,q_1,q_2⟩=>exact ⟨g8,a0,n0,c0,k0,m0,e0,hv,(hg.block _ (Array.getElem?_eq_some_iff.1 q_0).1 (fun e=>by have:=(HOWN.out _ e.symm).2; omega)).trans q_0,q_1.grown hg (fun j hj=>HOWN.out j hj),q_2⟩
      | 16,_,hne,_,_=>exact absurd rfl hne
      | 17,_,_,hkill,hu=>exact (hno hlk).elim
      | 18,_,_,_,hu=>exact (hg.block _ (Array.getElem?_eq_some_iff.1 hu).1 (fun e=>HNG.out _ e.symm rfl)).trans hu
      | 19,_,_,hkill,_=>exact absurd (hkill 16 (List.Mem.head _)) (by rw [upd_same]; decide)
      | 20,_,_,_,hu=>exact hu
      | kx+21,hkx,_,_,_=>exact absurd hkx (by show ¬ (kx+21<21); omega)
    ·intro lQ b W hI hUN hED KQ hKQ
     have f:=hI.got 16 (of_decide_eq_true rfl) (edge hED 16 (by kernel_rfl)) rfl
     obtain ⟨gf,cf,f0,o0⟩:=f
     replace f0:aT b 35=.slice (some ⟨gf,0,none⟩) (kq+1) cf:=f0
     refine opw_assign 35 rfl ?_
     rw [f0]
     exact hKQ.out _ _ (hI.putp 17 3 (fun j hj=>by rcases List.mem_singleton.1 hj with rfl; exact edge hED 16 (by kernel_rfl)) rfl (by rw [hz]; decide) rfl hUN rfl HBB (ci3r_stb y an nn cn ao kq cc es0 wq.heap.size w1.heap.size wr.heap.size (w1.heap.size)) (Below.refl _ _) ⟨gf,cf,rfl,o0⟩)
   ·intro b W hf hb F
    obtain ⟨gf,cf,e3,hits⟩:=F 17 (of_decide_eq_true rfl) rfl
    replace e3:aT b 3=_:=e3
    rw [hf.eq]
    simp only [puts,Act.put,List.setIfInBounds_toArray,List.set_cons_zero,List.set_cons_succ,e3]
    clear hf F e3
    generalize aT b=AT
    clear b
    have HO7:Hid (OwnItZ 5 0 w1.heap.size W (some ⟨gf,0,none⟩) (kq+1) cf ((x.ents.take (kq+1)).map goI)):=by show OwnItZ _ _ _ _ _ _ _ _; rw [HXK.out]; exact hits
    have B7:Below w1.heap.size w1 W:=hb1.trans hb
    clear hits
    go_wp2
    go_roundw
    case rel=>exact ⟨kq+1,_,cf,by omega,by go_num,rfl,HO7,B7⟩
    case measure=>simp [intOf]; omega
  ·obtain rfl:kq=q2:=by omega
   have HLE:Hid (ListZ 0 w1.heap.size 6 wr ao kq (x.ents.map goI)):=⟨by
    have:=HO.out.kids
    rw [List.take_of_length_le (by rw [HLX.out]; exact Nat.le_refl _)] at this
    exact this⟩
   have HBR:Hid (_=_):=HBX.out
   have hbA:Below w.heap.size w wr:=hbx.trans (hbr.mono hbx.size)
   have HNM:Hid (∀ W,Below w.heap.size wr W→Calls Tryz.prog 37 #[.agg #[.slice p1 q1 r1]] W fun e w'=>ItR 0 W.heap.size 4 (namI x.parts) e w'∧Below W.heap.size W w'):=fun W hW=>HNA.out W (hbA.trans hW)
   have HRR:w1.heap.size≤wr.heap.size:=hws
   have HBB:w.heap.size≤wr.heap.size:=hbA.size
   have hnn:¬ ((kq:Int)<(kq:Int)):=by omega
   clear HO HNA
   go_upto_region 7 with fail
   clear x7
   refine wp_region_ri (ci3b p1 q1 r1 p2 kq r2 p3 q3 r3 x ao cc l 0 w1.heap.size w.heap.size (w.heap.size)) [2,36,37,38,39,40,41,42,43,44,45,46,47,48,49,50,51,52,53,54,55,56,57,58,59,60,61] (w.heap.size) (fun a0=>a0.tmps.size=62∧aT a0 1=.pointer (some ⟨w.heap.size,0,none⟩)∧aT a0 3=.slice ao kq cc) (by kernel_rfl) rfl (by kernel_rfl) rfl ⟨rfl,rfl,rfl⟩ (ci3b_stb p1 q1 r1 p2 kq r2 p3 q3 r3 x ao cc l 0 w1.heap.size w.heap.size (w.heap.size)) ?_ ?_ ?_
   ·intro k hk hk2
    match k,hk,hk2 with
    | 27,_,_=>exact HBR.out
    | 28,_,_=>exact HLE.out
    | 0,hk,_=>exact absurd hk (by show ¬ (27≤0); omega)
    | 1,hk,_=>exact absurd hk (by show ¬ (27≤1); omega)
    | 2,hk,_=>exact absurd hk (by show ¬ (27≤2); omega)
    | 3,hk,_=>exact absurd hk (by show ¬ (27≤3); omega)
    | 4,hk,_=>exact absurd hk (by show ¬ (27≤4); omega)
    | 5,hk,_=>exact absurd hk (by show ¬ (27≤5); omega)
    | 6,hk,_=>exact absurd hk (by show ¬ (27≤6); omega)
    | 7,hk,_=>exact absurd hk (by show ¬ (27≤7); omega)
    | 8,hk,_=>exact absurd hk (by show ¬ (27≤8); omega)
    | 9,hk,_=>exact absurd hk (by show ¬ (27≤9); omega)
    | 10,hk,_=>exact absurd hk (by show ¬ (27≤10); omega)
    | 11,hk,_=>exact absurd hk (by show ¬ (27≤11); omega)
    | 12,hk,_=>exact absurd hk (by show ¬ (27≤12); omega)
    | 13,hk,_=>exact absurd hk (by show ¬ (27≤13); omega)
    | 14,hk,_=>exact absurd hk (by show ¬ (27≤14); omega)
    | 15,hk,_=>exact absurd hk (by show ¬ (27≤15); omega)
    | 16,hk,_=>exact absurd hk (by show ¬ (27≤16); omega)
    | 17,hk,_=>exact absurd hk (by show ¬ (27≤17); omega)
    | 18,hk,_=>exact absurd hk (by show ¬ (27≤18); omega)
    | 19,hk,_=>exact absurd hk (by show ¬ (27≤19); omega)
    | 20,hk,_=>exact absurd hk (by show ¬ (27≤20); omega)
    | 21,hk,_=>exact absurd hk (by show ¬ (27≤21); omega)
    | 22,hk,_=>exact absurd hk (by show ¬ (27≤22); omega)
    | 23,hk,_=>exact absurd hk (by show ¬ (27≤23); omega)
    | 24,hk,_=>exact absurd hk (by show ¬ (27≤24); omega)
    | 25,hk,_=>exact absurd hk (by show ¬ (27≤25); omega)
    | 26,hk,_=>exact absurd hk (by show ¬ (27≤26); omega)
    | k+29,_,hk2=>exact absurd hk2 (by show ¬ (k+29<29); omega)
   ·rintro a0 ⟨hz,g1,g3⟩
    refine StepsRI.cons ?_ (StepsRI.cons ?_ (StepsRI.cons ?_ (StepsRI.cons ?_ (StepsRI.cons ?_ (StepsRI.cons ?_ (StepsRI.cons ?_ (StepsRI.cons ?_ (StepsRI.cons ?_ (StepsRI.cons ?_ (StepsRI.cons ?_ (StepsRI.cons ?_ (StepsRI.cons ?_ (StepsRI.cons ?_ (StepsRI.cons ?_ (StepsRI.cons ?_ (StepsRI.cons ?_ (StepsRI.cons ?_ (StepsRI.cons ?_ (StepsRI.cons ?_ (StepsRI.cons ?_ (StepsRI.cons ?_ (StepsRI.cons ?_ (StepsRI.cons ?_ (StepsRI.cons ?_ (StepsRI.cons ?_ (StepsRI.cons ?_ (StepsRI.nil)))))))))))))))))))))))))))
    ·intro lQ b W hI hUN hED KQ hKQ
     exact opw_field 39 1 0 rfl _ ((hI.fr.same 1 (by decide)).trans g1) _ (by kernel_rfl) (hKQ.out _ _ (hI.put 0 36 rfl rfl (by rw [hz]; decide) rfl hUN rfl HBB (ci3b_stb p1 q1 r1 p2 kq r2 p3 q3 r3 x ao cc l 0 w1.heap.size w.heap.size (w.heap.size)) (Below.refl _ _) rfl))
    ·intro lQ b W hI hUN hED KQ hKQ
     have f:aT b 36=.pointer (some ⟨w.heap.size,0,none⟩):=hI.got 0 (of_decide_eq_true rfl) (edge hED 0 (by kernel_rfl)) rfl
     have hg:=(hI.vot 27 (of_decide_eq_true rfl) (of_decide_eq_true rfl) rfl)
     have hc0:W.cell? ⟨w.heap.size,0,none⟩=some (.slice p1 q1 r1):=(cell_of_row _ _ 0 _ _ (0,0) hg).trans rfl
     exact opw_load1 36 36 rfl _ f _ (by simp [Instr.loadAt,go_sem,hc0]) (hKQ.out _ _ (hI.put 1 37 rfl rfl (by rw [hz]; decide) rfl hUN rfl HBB (ci3b_stb p1 q1 r1 p2 kq r2 p3 q3 r3 x ao cc l 0 w1.heap.size w.heap.size (w.heap.size)) (Below.refl _ _) rfl))
    ·intro lQ b W hI hUN hED KQ hKQ
     have f0:aT b 37=.agg #[.slice p1 q1 r1]:=hI.got 1 (of_decide_eq_true rfl) (edge hED 1 (by kernel_rfl)) rfl
     refine opw_call 37 #[.tmp 37] _ _ _ rfl Tryz.func37 (by kernel_rfl) rfl #[.agg #[.slice p1 q1 r1]] (by simp [ev,f0]) ?_
     refine (HNM.out W hI.bel).mono ?_
     rintro r W2 ⟨⟨a1,n1,c1,k1,m1,e1,rfl,hzI⟩,hb⟩
     exact ⟨_,rfl,hKQ.out _ _ (hI.put 2 38 rfl rfl (by rw [hz]; decide) rfl hUN rfl HBB (ci3b_stb p1 q1 r1 p2 kq r2 p3 q3 r3 x ao cc l 0 w1.heap.size w.heap.size (w.heap.size)) hb ⟨a1,n1,c1,k1,m1,e1,rfl,(hzI.mono (Nat.le_trans HRR hI.bel.size)).le (by decide)⟩)⟩
    ·intro lQ b W hI hUN hED KQ hKQ
     exact opw_field 39 1 1 rfl _ ((hI.fr.same 1 (by decide)).trans g1) _ (by kernel_rfl) (hKQ.out _ _ (hI.put 3 39 rfl rfl (by rw [hz]; decide) rfl hUN rfl HBB (ci3b_stb p1 q1 r1 p2 kq r2 p3 q3 r3 x ao cc l 0 w1.heap.size w.heap.size (w.heap.size)) (Below.refl _ _) rfl))
    ·intro lQ b W hI hUN hED KQ hKQ
     have f:=hI.got 3 (of_decide_eq_true rfl) (edge hED 3 (by kernel_rfl)) rfl
     have hg:=(hI.vot 27 (of_decide_eq_true rfl) (of_decide_eq_true rfl) rfl)
     have hc:W.cell? ⟨w.heap.size,1,none⟩=some (.int .i64 x.num):=(cell_of_row _ _ 1 _ _ (0,0) hg).trans rfl
     exact opw_load1 2 39 rfl _ f _ (by simp [Instr.loadAt,go_sem,hc]) (hKQ.out _ _ (hI.put 4 40 rfl rfl (by rw [hz]; decide) rfl hUN rfl HBB (ci3b_stb p1 q1 r1 p2 kq r2 p3 q3 r3 x ao cc l 0 w1.heap.size w.heap.size (w.heap.size)) (Below.refl _ _) rfl))
    ·intro lQ b W hI hUN hED KQ hKQ
     have f0:aT b 40=.int .i64 x.num:=hI.got 4 (of_decide_eq_true rfl) (edge hED 4 (by kernel_rfl)) rfl
     refine opw_call 38 #[.tmp 40] _ _ _ rfl Tryz.func38 (by kernel_rfl) rfl #[.int .i64 x.num] (by simp [ev,f0]) ?_
     refine (l9Num_R x.num 0 W).mono ?_
     rintro r W2 ⟨⟨a2,n2,c2,k2,m2,e2,rfl,hzI⟩,hb⟩
     exact ⟨_,rfl,hKQ.out _ _ (hI.put 5 41 rfl rfl (by rw [hz]; decide) rfl hUN rfl HBB (ci3b_stb p1 q1 r1 p2 kq r2 p3 q3 r3 x ao cc l 0 w1.heap.size w.heap.size (w.heap.size)) hb ⟨a2,n2,c2,k2,m2,e2,rfl,(hzI.mono (Nat.le_trans HRR hI.bel.size)).le (by decide)⟩)⟩
    ·intro lQ b W hI hUN hED KQ hKQ
     exact opw_field 39 1 2 rfl _ ((hI.fr.same 1 (by decide)).trans g1) _ (by kernel_rfl) (hKQ.out _ _ (hI.put 6 42 rfl rfl (by rw [hz]; decide) rfl hUN rfl HBB (ci3b_stb p1 q1 r1 p2 kq r2 p3 q3 r3 x ao cc l 0 w1.heap.size w.heap.size (w.heap.size)) (Below.refl _ _) rfl))
    ·intro lQ b W hI hUN hED KQ hKQ
     have f:=hI.got 6 (of_decide_eq_true rfl) (edge hED 6 (by kernel_rfl)) rfl
     have hg:=(hI.vot 27 (of_decide_eq_true rfl) (of_decide_eq_true rfl) rfl)
     have hc:W.cell? ⟨w.heap.size,2,none⟩=some (.int .i64 x.base):=(cell_of_row _ _ 2 _ _ (0,0) hg).trans rfl
     exact opw_load1 2 42 rfl _ f _ (by simp [Instr.loadAt,go_sem,hc]) (hKQ.out _ _ (hI.put 7 43 rfl rfl (by rw [hz]; decide) rfl hUN rfl HBB (ci3b_stb p1 q1 r1 p2 kq r2 p3 q3 r3 x ao cc l 0 w1.heap.size w.heap.size (w.heap.size)) (Below.refl _ _) rfl))
    ·intro lQ b W hI hUN hED KQ hKQ
     have f0:aT b 43=.int .i64 x.base:=hI.got 7 (of_decide_eq_true rfl) (edge hED 7 (by kernel_rfl)) rfl
     refine opw_call 38 #[.tmp 43] _ _ _ rfl Tryz.func38 (by kernel_rfl) rfl #[.int .i64 x.base] (by simp [ev,f0]) ?_
     refine (l9Num_R x.base 0 W).mono ?_
     rintro r W2 ⟨⟨a3,n3,c3,k3,m3,e3,rfl,hzI⟩,hb⟩
     exact ⟨_,rfl,hKQ.out _ _ (hI.put 8 44 rfl rfl (by rw [hz]; decide) rfl hUN rfl HBB (ci3b_stb p1 q1 r1 p2 kq r2 p3 q3 r3 x ao cc l 0 w1.heap.size w.heap.size (w.heap.size)) hb ⟨a3,n3,c3,k3,m3,e3,rfl,(hzI.mono (Nat.le_trans HRR hI.bel.size)).le (by decide)⟩)⟩
    ·intro lQ b W hI hUN hED KQ hKQ
     exact opw_field 39 1 3 rfl _ ((hI.fr.same 1 (by decide)).trans g1) _ (by kernel_rfl) (hKQ.out _ _ (hI.put 9 45 rfl rfl (by rw [hz]; decide) rfl hUN rfl HBB (ci3b_stb p1 q1 r1 p2 kq r2 p3 q3 r3 x ao cc l 0 w1.heap.size w.heap.size (w.heap.size)) (Below.refl _ _) rfl))
    ·intro lQ b W hI hUN hED KQ hKQ
     have f:=hI.got 9 (of_decide_eq_true rfl) (edge hED 9 (by kernel_rfl)) rfl
     have hg:=(hI.vot 27 (of_decide_eq_true rfl) (of_decide_eq_true rfl) rfl)
     have hc:W.cell? ⟨w.heap.size,3,none⟩=some (.int .i64 x.tm):=(cell_of_row _ _ 3 _ _ (0,0) hg).trans rfl
     exact opw_load1 2 45 rfl _ f _ (by simp [Instr.loadAt,go_sem,hc]) (hKQ.out _ _ (hI.put 10 46 rfl rfl (by rw [hz]; decide) rfl hUN rfl HBB (ci3b_stb p1 q1 r1 p2 kq r2 p3 q3 r3 x ao cc l 0 w1.heap.size w.heap.size (w.heap.size)) (Below.refl _ _) rfl))
    ·intro lQ b W hI hUN hED KQ hKQ
     have f0:aT b 46=.int .i64 x.tm:=hI.got 10 (of_decide_eq_true rfl) (edge hED 10 (by kernel_rfl)) rfl
     refine opw_call 38 #[.tmp 46] _ _ _ rfl Tryz.func38 (by kernel_rfl) rfl #[.int .i64 x.tm] (by simp [ev,f0]) ?_
     refine (l9Num_R x.tm 0 W).mono ?_
     rintro r W2 ⟨⟨a4,n4,c4,k4,m4,e4,rfl,hzI⟩,hb⟩
     exact ⟨_,rfl,hKQ.out _ _ (hI.put 11 47 rfl rfl (by rw [hz]; decide) rfl hUN rfl HBB (ci3b_stb p1 q1 r1 p2 kq r2 p3 q3 r3 x ao cc l 0 w1.heap.size w.heap.size (w.heap.size)) hb ⟨a4,n4,c4,k4,m4,e4,rfl,(hzI.mono (Nat.le_trans HRR hI.bel.size)).le (by decide)⟩)⟩
    ·intro lQ b W hI hUN hED KQ hKQ
     exact opw_field 39 1 4 rfl _ ((hI.fr.same 1 (by decide)).trans g1) _ (by kernel_rfl) (hKQ.out _ _ (hI.put 12 48 rfl rfl (by rw [hz]; decide) rfl hUN rfl HBB (ci3b_stb p1 q1 r1 p2 kq r2 p3 q3 r3 x ao cc l 0 w1.heap.size w.heap.size (w.heap.size)) (Below.refl _ _) rfl))
    ·intro lQ b W hI hUN hED KQ hKQ
     have f:=hI.got 12 (of_decide_eq_true rfl) (edge hED 12 (by kernel_rfl)) rfl
     have hg:=(hI.vot 27 (of_decide_eq_true rfl) (of_decide_eq_true rfl) rfl)
     have hc:W.cell? ⟨w.heap.size,4,none⟩=some (.int .i64 x.next):=(cell_of_row _ _ 4 _ _ (0,0) hg).trans rfl
     exact opw_load1 2 48 rfl _ f _ (by simp [Instr.loadAt,go_sem,hc]) (hKQ.out _ _ (hI.put 13 49 rfl rfl (by rw [hz]; decide) rfl hUN rfl HBB (ci3b_stb p1 q1 r1 p2 kq r2 p3 q3 r3 x ao cc l 0 w1.heap.size w.heap.size (w.heap.size)) (Below.refl _ _) rfl))
    ·intro lQ b W hI hUN hED KQ hKQ
     have f0:aT b 49=.int .i64 x.next:=hI.got 13 (of_decide_eq_true rfl) (edge hED 13 (by kernel_rfl)) rfl
     refine opw_call 38 #[.tmp 49] _ _ _ rfl Tryz.func38 (by kernel_rfl) rfl #[.int .i64 x.next] (by simp [ev,f0]) ?_
     refine (l9Num_R x.next 0 W).mono ?_
     rintro r W2 ⟨⟨a5,n5,c5,k5,m5,e5,rfl,hzI⟩,hb⟩
     exact ⟨_,rfl,hKQ.out _ _ (hI.put 14 50 rfl rfl (by rw [hz]; decide) rfl hUN rfl HBB (ci3b_stb p1 q1 r1 p2 kq r2 p3 q3 r3 x ao cc l 0 w1.heap.size w.heap.size (w.heap.size)) hb ⟨a5,n5,c5,k5,m5,e5,rfl,(hzI.mono (Nat.le_trans HRR hI.bel.size)).le (by decide)⟩)⟩
    ·intro lQ b W hI hUN hED KQ hKQ
     exact opw_field 39 1 5 rfl _ ((hI.fr.same 1 (by decide)).trans g1) _ (by kernel_rfl) (hKQ.out _ _ (hI.put 15 51 rfl rfl (by rw [hz]; decide) rfl hUN rfl HBB (ci3b_stb p1 q1 r1 p2 kq r2 p3 q3 r3 x ao cc l 0 w1.heap.size w.heap.size (w.heap.size)) (Below.refl _ _) rfl))
    ·intro lQ b W hI hUN hED KQ hKQ
     have f:=hI.got 15 (of_decide_eq_true rfl) (edge hED 15 (by kernel_rfl)) rfl
     have hg:=(hI.vot 27 (of_decide_eq_true rfl) (of_decide_eq_true rfl) rfl)
     have hc:W.cell? ⟨w.heap.size,5,none⟩=some (.int .i64 x.scope):=(cell_of_row _ _ 5 _ _ (0,0) hg).trans rfl
     exact opw_load1 2 51 rfl _ f _ (by simp [Instr.loadAt,go_sem,hc]) (hKQ.out _ _ (hI.put 16 52 rfl rfl (by rw [hz]; decide) rfl hUN rfl HBB (ci3b_stb p1 q1 r1 p2 kq r2 p3 q3 r3 x ao cc l 0 w1.heap.size w.heap.size (w.heap.size)) (Below.refl _ _) rfl))
    ·intro lQ b W hI hUN hED KQ hKQ
     have f0:aT b 52=.int .i64 x.scope:=hI.got 16 (of_decide_eq_true rfl) (edge hED 16 (by kernel_rfl)) rfl
     refine opw_call 38 #[.tmp 52] _ _ _ rfl Tryz.func38 (by kernel_rfl) rfl #[.int .i64 x.scope] (by simp [ev,f0]) ?_
     refine (l9Num_R x.scope 0 W).mono ?_
     rintro r W2 ⟨⟨a6,n6,c6,k6,m6,e6,rfl,hzI⟩,hb⟩
     exact ⟨_,rfl,hKQ.out _ _ (hI.put 17 53 rfl rfl (by rw [hz]; decide) rfl hUN rfl HBB (ci3b_stb p1 q1 r1 p2 kq r2 p3 q3 r3 x ao cc l 0 w1.heap.size w.heap.size (w.heap.size)) hb ⟨a6,n6,c6,k6,m6,e6,rfl,(hzI.mono (Nat.le_trans HRR hI.bel.size)).le (by decide)⟩)⟩
    ·intro lQ b W hI hUN hED KQ hKQ
     exact opw_field 39 1 6 rfl _ ((hI.fr.same 1 (by decide)).trans g1) _ (by kernel_rfl) (hKQ.out _ _ (hI.put 18 54 rfl rfl (by rw [hz]; decide) rfl hUN rfl HBB (ci3b_stb p1 q1 r1 p2 kq r2 p3 q3 r3 x ao cc l 0 w1.heap.size w.heap.size (w.heap.size)) (Below.refl _ _) rfl))
    ·intro lQ b W hI hUN hED KQ hKQ
     have f:=hI.got 18 (of_decide_eq_true rfl) (edge hED 18 (by kernel_rfl)) rfl
     have hg:=(hI.vot 27 (of_decide_eq_true rfl) (of_decide_eq_true rfl) rfl)
     have hc:W.cell? ⟨w.heap.size,6,none⟩=some (.bool x.ind):=(cell_of_row _ _ 6 _ _ (0,0) hg).trans rfl
     exact opw_load1 4 54 rfl _ f _ (by simp [Instr.loadAt,go_sem,hc]) (hKQ.out _ _ (hI.put 19 55 rfl rfl (by rw [hz]; decide) rfl hUN rfl HBB (ci3b_stb p1 q1 r1 p2 kq r2 p3 q3 r3 x ao cc l 0 w1.heap.size w.heap.size (w.heap.size)) (Below.refl _ _) rfl))
    ·intro lQ b W hI hUN hED KQ hKQ
     have f0:aT b 55=.bool x.ind:=hI.got 19 (of_decide_eq_true rfl) (edge hED 19 (by kernel_rfl)) rfl
     refine opw_call 41 #[.tmp 55] _ _ _ rfl Tryz.func41 (by kernel_rfl) rfl #[.bool x.ind] (by simp [ev,f0]) ?_
     refine (l9Flag_R x.ind W 0 (Nat.zero_le _)).mono ?_
     rintro r W2 ⟨⟨a7,n7,c7,k7,m7,e7,rfl,hzI⟩,hb⟩
     exact ⟨_,rfl,hKQ.out _ _ (hI.put 20 56 rfl rfl (by rw [hz]; decide) rfl hUN rfl HBB (ci3b_stb p1 q1 r1 p2 kq r2 p3 q3 r3 x ao cc l 0 w1.heap.size w.heap.size (w.heap.size)) hb ⟨a7,n7,c7,k7,m7,e7,rfl,(hzI.mono (Nat.le_trans HRR hI.bel.size)).le (by decide)⟩)⟩
    ·intro lQ b W hI hUN hED KQ hKQ
     exact opw_move 3 rfl (hKQ.out _ _ (hI.put 21 57 rfl rfl (by rw [hz]; decide) rfl hUN rfl HBB (ci3b_stb p1 q1 r1 p2 kq r2 p3 q3 r3 x ao cc l 0 w1.heap.size w.heap.size (w.heap.size)) (Below.refl _ _) ((hI.fr.same 3 (by decide)).trans g3)))
    ·intro lQ b W hI hUN hED KQ hKQ
     have hl0:=hI.vot 28 (of_decide_eq_true rfl) (of_decide_eq_true rfl) rfl
     have f0:aT b 57=.slice ao kq cc:=hI.got 21 (of_decide_eq_true rfl) (edge hED 21 (by kernel_rfl)) rfl
     refine opw_call 42 #[.tmp 57] _ _ _ rfl Tryz.func42 (by kernel_rfl) rfl #[.slice ao kq cc] (by simp [ev,f0]) ?_
     refine (l9List_R hl0).mono ?_
     rintro r W2 ⟨⟨a8,n8,c8,k8,m8,e8,rfl,hzI⟩,hb⟩
     exact ⟨_,rfl,hKQ.out _ _ (hI.put 22 58 rfl rfl (by rw [hz]; decide) rfl hUN rfl HBB (ci3b_stb p1 q1 r1 p2 kq r2 p3 q3 r3 x ao cc l 0 w1.heap.size w.heap.size (w.heap.size)) hb ⟨a8,n8,c8,k8,m8,e8,rfl,hzI.le (by decide)⟩)⟩
    ·intro lQ b W hI hUN hED KQ hKQ
     obtain ⟨a1,n1,c1,k1,m1,e1,f1,o1⟩:=hI.got 2 (of_decide_eq_true rfl) (edge hED 2 (by kernel_rfl)) rfl
     replace f1:aT b 38=.agg #[.int .i64 (namI x.parts).cls,.int .i64 (namI x.parts).tag,.bool (namI x.parts).cons,.slice a1 n1 c1,.slice k1 m1 e1]:=f1
     obtain ⟨a2,n2,c2,k2,m2,e2,f2,o2⟩:=hI.got 5 (of_decide_eq_true rfl) (edge hED 5 (by kernel_rfl)) rfl
     replace f2:aT b 41=.agg #[.int .i64 (numI x.num).cls,.int .i64 (numI x.num).tag,.bool (numI x.num).cons,.slice a2 n2 c2,.slice k2 m2 e2]:=f2
     obtain ⟨a3,n3,c3,k3,m3,e3,f3,o3⟩:=hI.got 8 (of_decide_eq_true rfl) (edge hED 8 (by kernel_rfl)) rfl
     replace f3:aT b 44=.agg #[.int .i64 (numI x.base).cls,.int .i64 (numI x.base).tag,.bool (numI x.base).cons,.slice a3 n3 c3,.slice k3 m3 e3]:=f3
     obtain ⟨a4,n4,c4,k4,m4,e4,f4,o4⟩:=hI.got 11 (of_decide_eq_true rfl) (edge hED 11 (by kernel_rfl)) rfl
     replace f4:aT b 47=.agg #[.int .i64 (numI x.tm).cls,.int .i64 (numI x.tm).tag,.bool (numI x.tm).cons,.slice a4 n4 c4,.slice k4 m4 e4]:=f4
     obtain ⟨a5,n5,c5,k5,m5,e5,f5,o5⟩:=hI.got 14 (of_decide_eq_true rfl) (edge hED 14 (by kernel_rfl)) rfl
     replace f5:aT b 50=.agg #[.int .i64 (numI x.next).cls,.int .i64 (numI x.next).tag,.bool (numI x.next).cons,.slice a5 n5 c5,.slice k5 m5 e5]:=f5
     obtain ⟨a6,n6,c6,k6,m6,e6,f6,o6⟩:=hI.got 17 (of_decide_eq_true rfl) (edge hED 17 (by kernel_rfl)) rfl
     replace f6:aT b 53=.agg #[.int .i64 (numI x.scope).cls,.int .i64 (numI x.scope).tag,.bool (numI x.scope).cons,.slice a6 n6 c6,.slice k6 m6 e6]:=f6
     obtain ⟨a7,n7,c7,k7,m7,e7,f7,o7⟩:=hI.got 20 (of_decide_eq_true rfl) (edge hED 20 (by kernel_rfl)) rfl
     replace f7:aT b 56=.agg #[.int .i64 (flgI x.ind).cls,.int .i64 (flgI x.ind).tag,.bool (flgI x.ind).cons,.slice a7 n7 c7,.slice k7 m7 e7]:=f7
     obtain ⟨a8,n8,c8,k8,m8,e8,f8,o8⟩:=hI.got 22 (of_decide_eq_true rfl) (edge hED 22 (by kernel_rfl)) rfl
     replace f8:aT b 58=.agg #[.int .i64 (lstI (x.ents.map goI)).cls,.int .i64 (lstI (x.ents.map goI)).tag,.bool (lstI (x.ents.map goI)).cons,.slice a8 n8 c8,.slice k8 m8 e8]:=f8
     refine opw_buildSliceT _ 8 _ rfl #[(0,.agg #[.int .i64 (namI x.parts).cls,.int .i64 (namI x.parts).tag,.bool (namI x.parts).cons,.slice a1 n1 c1,.slice k1 m1 e1]),(1,.agg #[.int .i64 (numI x.num).cls,.int .i64 (numI x.num).tag,.bool (numI x.num).cons,.slice a2 n2 c2,.slice k2 m2 e2]),(2,.agg #[.int .i64 (numI x.base).cls,.int .i64 (numI x.base).tag,.bool (numI x.base).cons,.slice a3 n3 c3,.slice k3 m3 e3]),(3,.agg #[.int .i64 (numI x.tm).cls,.int .i64 (numI x.tm).tag,.bool (numI x.tm).cons,.slice a4 n4 c4,.slice k4 m4 e4]),(4,.agg #[.int .i64 (numI x.next).cls,.int .i64 (numI x.next).tag,.bool (numI x.next).cons,.slice a5 n5 c5,.slice k5 m5 e5]),(5,.agg #[.int .i64 (numI x.scope).cls,.int .i64 (numI x.scope).tag,.bool (numI x.scope).cons,.slice a6 n6 c6,.slice k6 m6 e6]),(6,.agg #[.int .i64 (flgI x.ind).cls,.int .i64 (flgI x.ind).tag,.bool (flgI x.ind).cons,.slice a7 n7 c7,.slice k7 m7 e7]),(7,.agg #[.int .i64 (lstI (x.ents.map goI)).cls,.int .i64 (lstI (x.ents.map goI)).tag,.bool (lstI (x.ents.map goI)).cons,.slice a8 n8 c8,.slice k8 m8 e8])] (by simp [ev,f1,f2,f3,f4,f5,f6,f7,f8]) (.slice (some ⟨W.heap.size,0,none⟩) 8 8) (W.alloc (.cells #[.int .i64 (namI x.parts).cls,.int .i64 (namI x.parts).tag,.bool (namI x.parts).cons,.slice a1 n1 c1,.slice k1 m1 e1,.int .i64 (numI x.num).cls,.int .i64 (numI x.num).tag,.bool (numI x.num).cons,.slice a2 n2 c2,.slice k2 m2 e2,.int .i64 (numI x.base).cls,.int .i64 (numI x.base).tag,.bool (numI x.base).cons,.slice a3 n3 c3,.slice k3 m3 e3,.int .i64 (numI x.tm).cls,.int .i64 (numI x.tm).tag,.bool (numI x.tm).cons,.slice a4 n4 c4,.slice k4 m4 e4,.int .i64 (numI x.next).cls,.int .i64 (numI x.next).tag,.bool (numI x.next).cons,.slice a5 n5 c5,.slice k5 m5 e5,.int .i64 (numI x.scope).cls,.int .i64 (numI x.scope).tag,.bool (numI x.scope).cons,.slice a6 n6 c6,.slice k6 m6 e6,.int .i64 (flgI x.ind).cls,.int .i64 (flgI x.ind).tag,.bool (flgI x.ind).cons,.slice a7 n7 c7,.slice k7 m7 e7,.int .i64 (lstI (x.ents.map goI)).cls,.int .i64 (lstI (x.ents.map goI)).tag,.bool (lstI (x.ents.map goI)).cons,.slice a8 n8 c8,.slice k8 m8 e8] 81)) (by kernel_rfl) ?_
     exact hKQ.out _ _ (hI.put 23 59 rfl rfl (by rw [hz]; decide) rfl hUN rfl HBB (ci3b_stb p1 q1 r1 p2 kq r2 p3 q3 r3 x ao cc l 0 w1.heap.size w.heap.size (w.heap.size)) ((Below.refl _ _).alloc (Nat.le_refl _) _) ⟨W.heap.size,rfl,kidZ_n8 (Nat.le_trans HRR hI.bel.size) o1 o2 o3 o4 o5 o6 o7 o8⟩)
    ·intro lQ b W hI hUN hED KQ hKQ
     obtain ⟨gr,f0,o0⟩:=hI.got 23 (of_decide_eq_true rfl) (edge hED 23 (by kernel_rfl)) rfl
     replace f0:aT b 59=.slice (some ⟨gr,0,none⟩) 8 8:=f0
     refine opw_call 40 #[.const (.int .i64 1),.const (.int .i64 4),.tmp 59] _ _ _ rfl Tryz.func40 (by kernel_rfl) rfl #[.int .i64 1,.int .i64 4,.slice (some ⟨gr,0,none⟩) 8 8] (by simp [ev,evc,f0]) ?_
     refine (l2Box_R 4 o0 rfl).mono ?_
     rintro r W2 ⟨⟨a0,n0,c0,k0,m0,e0,rfl,hzI⟩,hb⟩
     exact ⟨_,rfl,hKQ.out _ _ (hI.put 24 60 rfl rfl (by rw [hz]; decide) rfl hUN rfl HBB (ci3b_stb p1 q1 r1 p2 kq r2 p3 q3 r3 x ao cc l 0 w1.heap.size w.heap.size (w.heap.size)) hb ⟨a0,n0,c0,k0,m0,e0,rfl,hzI⟩)⟩
    ·intro lQ b W hI hUN hED KQ hKQ
     obtain ⟨a0,n0,c0,k0,m0,e0,f0,o0⟩:=hI.got 24 (of_decide_eq_true rfl) (edge hED 24 (by kernel_rfl)) rfl
     replace f0:aT b 60=.agg #[.int .i64 (boxI 4 (crK x)).cls,.int .i64 (boxI 4 (crK x)).tag,.bool (boxI 4 (crK x)).cons,.slice a0 n0 c0,.slice k0 m0 e0]:=f0
     refine opw_call 39 #[.tmp 60] _ _ _ rfl Tryz.func39 (by kernel_rfl) rfl #[.agg #[.int .i64 (boxI 4 (crK x)).cls,.int .i64 (boxI 4 (crK x)).tag,.bool (boxI 4 (crK x)).cons,.slice a0 n0 c0,.slice k0 m0 e0]] (by simp [ev,f0]) ?_
     refine (specBytes_all 7 12 (boxI 4 (crK x)) l a0 n0 c0 k0 m0 e0 W HE.out o0.it.row.row o0.it.nil o0.it.kids.kids).mono ?_
     rintro r W2 ⟨a4,c4,rfl,ho,hb⟩
     exact ⟨_,rfl,hKQ.out _ _ (hI.put 25 61 rfl rfl (by rw [hz]; decide) rfl hUN rfl HBB (ci3b_stb p1 q1 r1 p2 kq r2 p3 q3 r3 x ao cc l 0 w1.heap.size w.heap.size (w.heap.size)) hb ⟨a4,c4,rfl,ho.mono (Nat.le_trans HBB hI.bel.size)⟩)⟩
    ·intro lQ b W hI hUN hED KQ hKQ
     have f:=hI.got 25 (of_decide_eq_true rfl) (edge hED 25 (by kernel_rfl)) rfl
     exact opw_assign 61 rfl (hKQ.out _ _ (hI.put 26 2 rfl rfl (by rw [hz]; decide) rfl hUN rfl HBB (ci3b_stb p1 q1 r1 p2 kq r2 p3 q3 r3 x ao cc l 0 w1.heap.size w.heap.size (w.heap.size)) (Below.refl _ _) f))
   ·intro b W hf hb F
    obtain ⟨a4,c4,e2,ho⟩:=F 26 (of_decide_eq_true rfl) rfl
    replace e2:aT b 2=.slice a4 l.length c4:=e2
    rw [hf.eq]
    simp only [puts,Act.put,List.setIfInBounds_toArray,List.set_cons_zero,List.set_cons_succ,e2]
    clear hf F e2
    generalize aT b=AT
    clear b
    go_wp2
    go_ret
    exact ⟨a4,c4,rfl,ho,hbA.trans hb⟩
end Go.Proofs.YtkdandggklpppaaGreatDoor
