import Derived.Laws.Rows
import Derived.Test.YtmdfbnlgfhjnoaaGreatDoorFA46
import Derived.Test.YtmdfbnlgfhjnoaaGreatDoorFA42
import Derived.Test.YtmdfbnlgfhjnoaaGreatDoorFA45
import Derived.Test.YtmdfbnlgfhjnoaaGreatDoorFA47
import Derived.Test.YtmdfbnlgfhjnoaaGreatDoorFA09
set_option maxRecDepth 10000
set_option maxHeartbeats 8000000
set_option linter.unusedVariables false
namespace Go.Proofs.YtmdfbnlgfhjnoaaGreatDoor
open Go.RowKit
theorem infoSize9:(Tryz.prog.info? 46).map (·.size)=some 21:=by kernel_rfl
theorem infoSizeL9:(Tryz.prog.info? 34).map (·.size)=some 21:=by kernel_rfl
theorem opw_not {P:Program}{Q:Exit→Act→World→Prop}{o:Oper}{a:Act}{w:World}{K:Act→World→Prop}(t x:Nat)(ho:o.op=.unOp .not t (.tmp x))(p:Bool)(hx:aT a x=.bool p)(h:K (a.put o.dst (.bool (!p))) w):o.wp P a w K Q:=by
 refine opw_value (.bool (!p)) ?_ h
 have hx':a.eval (.tmp x)=.bool p:=hx
 unfold execOp
 simp only [ho,hx']
 simp [go_sem]
open Go.RowKit Go.Sort
def ceIt (k:Nat)(x:CE):It:=if k=1 then boxI 1 (ceK x) else boxI 2 [boxI 1 (ceK x),bytI x.sig]
def CbR (k:Nat)(x:CE)(bo:Bool)(l:List Int):Prop:=(ceP x∧bo=true∧enc 12 (ceIt k x)=some l)∨(¬ ceP x∧bo=false∧l = [])
theorem cbR_any (k:Nat)(x:CE):∃ bo l,CbR k x bo l∧l.length≤20000:=by
 by_cases h:ceP x
 ·by_cases hk:k=1
  ·subst hk
   have:=ceBody_enc h
   exact ⟨true,ceBody x,.inl ⟨h,rfl,this.1⟩,by omega⟩
  ·have:=ceBytes_enc h
   refine ⟨true,ceBytes x,.inl ⟨h,rfl,?_⟩,by omega⟩
   unfold ceIt
   rw [if_neg hk]
   exact this.1
 ·exact ⟨false,[],.inr ⟨h,rfl,rfl⟩,by decide⟩
theorem sayB_t {p:Prop}{v:Bool}(h:Hid (v=true↔p))(hp:p):v=true:=h.out.2 hp
theorem sayB_f {p:Prop}{v:Bool}(h:Hid (v=true↔p))(hp:¬ p):v=false:=by
 cases v with
 | false=>rfl
 | true=>exact absurd (h.out.1 rfl) hp
theorem own_nilM (B:Nat)(w:World):Own B w none 0 0 []:=⟨World.ownsRow_nil w B 5 1,by simp⟩
theorem itemBytes_R {L R d:Nat}{x:It}{ab:Option Addr}{nb cb:Nat}{ak:Option Addr}{nk ck:Nat}{l:List Int}{w:World}(h:ItZ L R d w x ab nb cb ak nk ck)(hl:enc 12 x=some l) :
  Calls Tryz.prog 45 #[.agg #[.int .i64 x.cls,.int .i64 x.tag,.bool x.cons,.slice ab nb cb,.slice ak nk ck]] w fun e w'=>∃ a' c',e=.returned (.tuple #[.slice a' l.length c',.bool true])∧Own w.heap.size w' a' l.length c' l∧Below w.heap.size w w':=by
 refine Calls.mono (implItemBytes_any d x ab nb cb ak nk ck w h.it.row.row h.it.nil h.it.max h.it.kids.kids) ?_
 rintro e w1 ⟨hans,hb1⟩
 rcases hans with ⟨a1,n1,c1,bs,rfl,h1,ho⟩ | ⟨rfl,h1⟩
 ·have e1:bs=l:=by have:=h1.out; rw [hl] at this; injection this with this; exact this.symm
  subst e1
  have e2:bs.length=n1:=ho.toRow.len
  subst e2
  exact ⟨a1,c1,rfl,ho,hb1⟩
 ·have:=h1.out
  rw [hl] at this
  cases this
theorem l2Bytes_R {L R d:Nat}{x:It}{ab:Option Addr}{nb cb:Nat}{ak:Option Addr}{nk ck:Nat}{l:List Int}{w:World}(h:ItZ L R d w x ab nb cb ak nk ck)(hl:enc 12 x=some l) :
  Calls Tryz.prog 36 #[.agg #[.int .i64 x.cls,.int .i64 x.tag,.bool x.cons,.slice ab nb cb,.slice ak nk ck]] w fun e w'=>∃ a' c',e=.returned (.slice a' l.length c')∧Own w.heap.size w' a' l.length c' l∧Below w.heap.size w w' :=
 specBytes_all d 12 x l ab nb cb ak nk ck w hl h.it.row.row h.it.nil h.it.kids.kids
def cp1i (s:CES)(x:CE)(l:List Int)(L R G B:Nat):RSpec where
 m:=12
 n:=13
 slots:=[7,8,9,10,11,12,13,14,15,16,2,3,100012]
 kills:=[[],[],[],[],[],[],[],[],[],[],[],[],[]]
 pres:=[[],[],[],[],[],[],[],[],[],[],[],[],[]]
 fact:=fun k v w=>match k with
  | 0=>v=.agg #[.int .i64 x.ser,.slice s.a1 s.n1 s.c1,.slice s.a2 s.n2 s.c2,.int .i64 x.frm,.int .i64 x.til,.int .i64 x.key.1,.int .u64 x.key.2.1,.int .i64 x.key.2.2,.bool x.ca,.int .i64 x.room,.int .i64 x.uses,.slice s.a3 s.n3 s.c3,.slice s.a4 s.n4 s.c4,.slice s.a5 s.n5 s.c5,.slice s.a6 s.n6 s.c6,.slice s.a7 s.n7 s.c7,.int .i64 x.need,.int .i64 x.nomap,.int .i64 x.noany,.slice s.a8 s.n8 s.c8,.slice s.a9 s.n9 s.c9]
  | 1=>∃ a1 n1 c1 k1 m1 e1,v=.agg #[.int .i64 (boxI 1 (ceK x)).cls,.int .i64 (boxI 1 (ceK x)).tag,.bool (boxI 1 (ceK x)).cons,.slice a1 n1 c1,.slice k1 m1 e1]∧ItZ L R 7 w (boxI 1 (ceK x)) a1 n1 c1 k1 m1 e1
  | 2=>v=.pointer (some ⟨G,20,none⟩)
  | 3=>v=.slice s.a9 s.n9 s.c9
  | 4=>∃ a2 n2 c2 k2 m2 e2,v=.agg #[.int .i64 (bytI x.sig).cls,.int .i64 (bytI x.sig).tag,.bool (bytI x.sig).cons,.slice a2 n2 c2,.slice k2 m2 e2]∧ItZ L R 7 w (bytI x.sig) a2 n2 c2 k2 m2 e2
  | 5=>∃ gr,v=.slice (some ⟨gr,0,none⟩) 2 2∧KidZ L R w gr 8 [boxI 1 (ceK x),bytI x.sig]
  | 6=>∃ a0 n0 c0 k0 m0 e0,v=.agg #[.int .i64 (boxI 2 [boxI 1 (ceK x),bytI x.sig]).cls,.int .i64 (boxI 2 [boxI 1 (ceK x),bytI x.sig]).tag,.bool (boxI 2 [boxI 1 (ceK x),bytI x.sig]).cons,.slice a0 n0 c0,.slice k0 m0 e0]∧ItZ L R 8 w (boxI 2 [boxI 1 (ceK x),bytI x.sig]) a0 n0 c0 k0 m0 e0
  | 7=>∃ a4 c4,v=.tuple #[.slice a4 l.length c4,.bool true]∧Own B w a4 l.length c4 l
  | 8=>∃ a4 c4,v=.slice a4 l.length c4∧Own B w a4 l.length c4 l
  | 9=>v=.bool true
  | 10=>∃ a4 c4,v=.slice a4 l.length c4∧Own B w a4 l.length c4 l
  | 11=>v=.bool true
  | _=>w.heap[G]? = some (.cells #[.int .i64 x.ser,.slice s.a1 s.n1 s.c1,.slice s.a2 s.n2 s.c2,.int .i64 x.frm,.int .i64 x.til,.int .i64 x.key.1,.int .u64 x.key.2.1,.int .i64 x.key.2.2,.bool x.ca,.int .i64 x.room,.int .i64 x.uses,.slice s.a3 s.n3 s.c3,.slice s.a4 s.n4 s.c4,.slice s.a5 s.n5 s.c5,.slice s.a6 s.n6 s.c6,.slice s.a7 s.n7 s.c7,.int .i64 x.need,.int .i64 x.nomap,.int .i64 x.noany,.slice s.a8 s.n8 s.c8,.slice s.a9 s.n9 s.c9] 46 (0,0))
theorem cp1i_stb (s:CES)(x:CE)(l:List Int)(L R G B:Nat)(k:Nat)(hk:k<13):StB ((cp1i s x l L R G (B)).fact k):=by
 match k,hk with
 | 0,_=>exact fun _ _ _ h _=>h
 | 1,_=>exact fun _ _ _ ⟨a1,n1,c1,k1,m1,e1,hv,q_0⟩ hb=>⟨a1,n1,c1,k1,m1,e1,hv,q_0.kept hb⟩
 | 2,_=>exact fun _ _ _ h _=>h
 | 3,_=>exact fun _ _ _ h _=>h
 | 4,_=>exact fun _ _ _ ⟨a2,n2,c2,k2,m2,e2,hv,q_0⟩ hb=>⟨a2,n2,c2,k2,m2,e2,hv,q_0.kept hb⟩
 | 5,_=>exact fun _ _ _ ⟨gr,hv,q_0⟩ hb=>⟨gr,hv,q_0.kept hb⟩
 | 6,_=>exact fun _ _ _ ⟨a0,n0,c0,k0,m0,e0,hv,q_0⟩ hb=>⟨a0,n0,c0,k0,m0,e0,hv,q_0.kept hb⟩
 | 7,_=>exact fun _ _ _ ⟨a4,c4,hv,q_0⟩ hb=>⟨a4,c4,hv,q_0.kept hb⟩
 | 8,_=>exact fun _ _ _ ⟨a4,c4,hv,q_0⟩ hb=>⟨a4,c4,hv,q_0.kept hb⟩
 | 9,_=>exact fun _ _ _ h _=>h
 | 10,_=>exact fun _ _ _ ⟨a4,c4,hv,q_0⟩ hb=>⟨a4,c4,hv,q_0.kept hb⟩
 | 11,_=>exact fun _ _ _ h _=>h
 | 12,_=>exact fun _ _ _ q_0 hb=>below_kept q_0 hb
 | k+13,hk=>omega
theorem implCertBytes_any (s:CES)(x:CE)(bo:Bool)(l:List Int)(w:World)(hm:MaxW w)(h:CER w s x)(hz:CEZ x)(ht:CET s)(hu:U64 x.key.2.1)(hf:CbR 2 x bo l) :
  Calls Tryz.prog 18 #[CEv s x] w fun e w'=>∃ a' c',e=.returned (.tuple #[.slice a' l.length c',.bool bo])∧Own w.heap.size w' a' l.length c' l∧Below w.heap.size w w':=by
 show Calls Tryz.prog 18 #[.agg #[.int .i64 x.ser,.slice s.a1 s.n1 s.c1,.slice s.a2 s.n2 s.c2,.int .i64 x.frm,.int .i64 x.til,.int .i64 x.key.1,.int .u64 x.key.2.1,.int .i64 x.key.2.2,.bool x.ca,.int .i64 x.room,.int .i64 x.uses,.slice s.a3 s.n3 s.c3,.slice s.a4 s.n4 s.c4,.slice s.a5 s.n5 s.c5,.slice s.a6 s.n6 s.c6,.slice s.a7 s.n7 s.c7,.int .i64 x.need,.int .i64 x.nomap,.int .i64 x.noany,.slice s.a8 s.n8 s.c8,.slice s.a9 s.n9 s.c9]] w _
 obtain ⟨w0,hw0⟩:∃ w0,w0=w.alloc (.cells #[.int .i64 x.ser,.slice s.a1 s.n1 s.c1,.slice s.a2 s.n2 s.c2,.int .i64 x.frm,.int .i64 x.til,.int .i64 x.key.1,.int .u64 x.key.2.1,.int .i64 x.key.2.2,.bool x.ca,.int .i64 x.room,.int .i64 x.uses,.slice s.a3 s.n3 s.c3,.slice s.a4 s.n4 s.c4,.slice s.a5 s.n5 s.c5,.slice s.a6 s.n6 s.c6,.slice s.a7 s.n7 s.c7,.int .i64 x.need,.int .i64 x.nomap,.int .i64 x.noany,.slice s.a8 s.n8 s.c8,.slice s.a9 s.n9 s.c9] 46):=⟨_,rfl⟩
 have B0:Hid (Below w.heap.size w w0):=by show Below _ _ _; rw [hw0]; exact (Below.refl _ _).alloc (Nat.le_refl _) _
 have L0:Hid (w0.heap[w.heap.size]? = some (.cells #[.int .i64 x.ser,.slice s.a1 s.n1 s.c1,.slice s.a2 s.n2 s.c2,.int .i64 x.frm,.int .i64 x.til,.int .i64 x.key.1,.int .u64 x.key.2.1,.int .i64 x.key.2.2,.bool x.ca,.int .i64 x.room,.int .i64 x.uses,.slice s.a3 s.n3 s.c3,.slice s.a4 s.n4 s.c4,.slice s.a5 s.n5 s.c5,.slice s.a6 s.n6 s.c6,.slice s.a7 s.n7 s.c7,.int .i64 x.need,.int .i64 x.nomap,.int .i64 x.noany,.slice s.a8 s.n8 s.c8,.slice s.a9 s.n9 s.c9] 46 (0,0))):=by show _=_; rw [hw0]; exact heap_alloc_new w _
 have HOK:Hid (Calls Tryz.prog 44 #[.agg #[.int .i64 x.ser,.slice s.a1 s.n1 s.c1,.slice s.a2 s.n2 s.c2,.int .i64 x.frm,.int .i64 x.til,.int .i64 x.key.1,.int .u64 x.key.2.1,.int .i64 x.key.2.2,.bool x.ca,.int .i64 x.room,.int .i64 x.uses,.slice s.a3 s.n3 s.c3,.slice s.a4 s.n4 s.c4,.slice s.a5 s.n5 s.c5,.slice s.a6 s.n6 s.c6,.slice s.a7 s.n7 s.c7,.int .i64 x.need,.int .i64 x.nomap,.int .i64 x.noany,.slice s.a8 s.n8 s.c8,.slice s.a9 s.n9 s.c9]] w0 (Says (ceP x) w0)):=implCertOk_any s x w0 (hm.kept B0.out) (h.kept B0.out) hz ht hu
 have HBD:Hid (ceP x→∀ W,Below w.heap.size w W→Calls Tryz.prog 46 #[.agg #[.int .i64 x.ser,.slice s.a1 s.n1 s.c1,.slice s.a2 s.n2 s.c2,.int .i64 x.frm,.int .i64 x.til,.int .i64 x.key.1,.int .u64 x.key.2.1,.int .i64 x.key.2.2,.bool x.ca,.int .i64 x.room,.int .i64 x.uses,.slice s.a3 s.n3 s.c3,.slice s.a4 s.n4 s.c4,.slice s.a5 s.n5 s.c5,.slice s.a6 s.n6 s.c6,.slice s.a7 s.n7 s.c7,.int .i64 x.need,.int .i64 x.nomap,.int .i64 x.noany,.slice s.a8 s.n8 s.c8,.slice s.a9 s.n9 s.c9]] W fun e w'=>ItR w.heap.size W.heap.size 7 (boxI 1 (ceK x)) e w'∧Below W.heap.size W w'):=fun hp W hW=>bodyItem_R s x w.heap.size W hW.size (h.kept hW) (ceW_of h hu hp) (h.r8.exL.kept h.r8 hW)
 have HSG:Hid (∀ W,Below w.heap.size w W→Calls Tryz.prog 60 #[.slice s.a9 s.n9 s.c9] W fun e w'=>ItR w.heap.size W.heap.size 1 (bytI x.sig) e w'∧Below W.heap.size W w'):=fun W hW=>bytesItem_R s.a9 s.n9 s.c9 x.sig w.heap.size W (h.r9.kept hW) (h.r9.toI.lt) h.nl9 h.m9
 clear h hz ht hu hm
 go_enter Tryz.func18,Tryz.ntmps18
 go_upto_region 1 with fail
 rw [← hw0]
 clear hw0
 go_wp2_with (first | (refine wpList_load_row rfl 46 _ rfl w.heap.size rfl 46 #[.int .i64 x.ser,.slice s.a1 s.n1 s.c1,.slice s.a2 s.n2 s.c2,.int .i64 x.frm,.int .i64 x.til,.int .i64 x.key.1,.int .u64 x.key.2.1,.int .i64 x.key.2.2,.bool x.ca,.int .i64 x.room,.int .i64 x.uses,.slice s.a3 s.n3 s.c3,.slice s.a4 s.n4 s.c4,.slice s.a5 s.n5 s.c5,.slice s.a6 s.n6 s.c6,.slice s.a7 s.n7 s.c7,.int .i64 x.need,.int .i64 x.nomap,.int .i64 x.noany,.slice s.a8 s.n8 s.c8,.slice s.a9 s.n9 s.c9] (0,0) _ L0.out Tryz.underlying46 rfl infoSize9 ?_) | fail)
 refine HOK.out.mono ?_
 rintro e w1 ⟨v1,rfl,hv1,hb1⟩
 have B1:Hid (Below w.heap.size w w1):=B0.out.trans (hb1.mono B0.out.size)
 have L1:Hid (w1.heap[w.heap.size]? = some (.cells #[.int .i64 x.ser,.slice s.a1 s.n1 s.c1,.slice s.a2 s.n2 s.c2,.int .i64 x.frm,.int .i64 x.til,.int .i64 x.key.1,.int .u64 x.key.2.1,.int .i64 x.key.2.2,.bool x.ca,.int .i64 x.room,.int .i64 x.uses,.slice s.a3 s.n3 s.c3,.slice s.a4 s.n4 s.c4,.slice s.a5 s.n5 s.c5,.slice s.a6 s.n6 s.c6,.slice s.a7 s.n7 s.c7,.int .i64 x.need,.int .i64 x.nomap,.int .i64 x.noany,.slice s.a8 s.n8 s.c8,.slice s.a9 s.n9 s.c9] 46 (0,0))):=(hb1.block _ (Array.getElem?_eq_some_iff.1 L0.out).1).trans L0.out
 clear hb1 B0 L0 HOK
 rcases hf with ⟨hP,rfl,hE⟩ | ⟨hP,rfl,rfl⟩
 ·obtain rfl:v1=true:=sayB_t hv1 hP
  have HE:Hid (enc 12 (boxI 2 [boxI 1 (ceK x),bytI x.sig])=some l):=hE
  have HB2:Hid (∀ W,Below w.heap.size w1 W→Calls Tryz.prog 46 #[.agg #[.int .i64 x.ser,.slice s.a1 s.n1 s.c1,.slice s.a2 s.n2 s.c2,.int .i64 x.frm,.int .i64 x.til,.int .i64 x.key.1,.int .u64 x.key.2.1,.int .i64 x.key.2.2,.bool x.ca,.int .i64 x.room,.int .i64 x.uses,.slice s.a3 s.n3 s.c3,.slice s.a4 s.n4 s.c4,.slice s.a5 s.n5 s.c5,.slice s.a6 s.n6 s.c6,.slice s.a7 s.n7 s.c7,.int .i64 x.need,.int .i64 x.nomap,.int .i64 x.noany,.slice s.a8 s.n8 s.c8,.slice s.a9 s.n9 s.c9]] W fun e w'=>ItR w.heap.size W.heap.size 7 (boxI 1 (ceK x)) e w'∧Below W.heap.size W w'):=fun W hW=>HBD.out hP W (B1.out.trans hW)
  replace HSG:Hid (∀ W,Below w.heap.size w1 W→Calls Tryz.prog 60 #[.slice s.a9 s.n9 s.c9] W fun e w'=>ItR w.heap.size W.heap.size 1 (bytI x.sig) e w'∧Below W.heap.size W w'):=fun W hW=>HSG.out W (B1.out.trans hW)
  have HBB:w.heap.size≤w1.heap.size:=B1.out.size
  have HRR:w1.heap.size≤w1.heap.size:=Nat.le_refl _
  clear hv1 hP hE HBD
  go_upto_region 3 with fail
  refine wp_region_ri (cp1i s x l w.heap.size w1.heap.size w.heap.size (w.heap.size)) [2,3,7,8,9,10,11,12,13,14,15,16] (w.heap.size) (fun a0=>a0.tmps.size=17∧aT a0 1=.pointer (some ⟨w.heap.size,0,none⟩)) (by kernel_rfl) rfl (by kernel_rfl) rfl ⟨rfl,rfl⟩ (cp1i_stb s x l w.heap.size w1.heap.size w.heap.size (w.heap.size)) ?_ ?_ ?_
  ·intro k hk hk2
   match k,hk,hk2 with
   | 12,_,_=>exact L1.out
   | 0,hk,_=>exact absurd hk (by show ¬ (12≤0); omega)
   | 1,hk,_=>exact absurd hk (by show ¬ (12≤1); omega)
   | 2,hk,_=>exact absurd hk (by show ¬ (12≤2); omega)
   | 3,hk,_=>exact absurd hk (by show ¬ (12≤3); omega)
   | 4,hk,_=>exact absurd hk (by show ¬ (12≤4); omega)
   | 5,hk,_=>exact absurd hk (by show ¬ (12≤5); omega)
   | 6,hk,_=>exact absurd hk (by show ¬ (12≤6); omega)
   | 7,hk,_=>exact absurd hk (by show ¬ (12≤7); omega)
   | 8,hk,_=>exact absurd hk (by show ¬ (12≤8); omega)
   | 9,hk,_=>exact absurd hk (by show ¬ (12≤9); omega)
   | 10,hk,_=>exact absurd hk (by show ¬ (12≤10); omega)
   | 11,hk,_=>exact absurd hk (by show ¬ (12≤11); omega)
   | k+13,_,hk2=>exact absurd hk2 (by show ¬ (k+13<13); omega)
  ·rintro a0 ⟨hz,g1⟩
   refine StepsRI.cons ?_ (StepsRI.cons ?_ (StepsRI.cons ?_ (StepsRI.cons ?_ (StepsRI.cons ?_ (StepsRI.cons ?_ (StepsRI.cons ?_ (StepsRI.cons ?_ (StepsRI.cons ?_ (StepsRI.cons ?_ (StepsRI.cons ?_ (StepsRI.cons ?_ (StepsRI.nil))))))))))))
   ·intro lQ b W hI hUN hED KQ hKQ
    have hg:=(hI.vot 12 (of_decide_eq_true rfl) (of_decide_eq_true rfl) rfl)
    refine wp_load_row 46 _ rfl (w.heap.size) ((hI.fr.same 1 (by decide)).trans g1) 46 #[.int .i64 x.ser,.slice s.a1 s.n1 s.c1,.slice s.a2 s.n2 s.c2,.int .i64 x.frm,.int .i64 x.til,.int .i64 x.key.1,.int .u64 x.key.2.1,.int .i64 x.key.2.2,.bool x.ca,.int .i64 x.room,.int .i64 x.uses,.slice s.a3 s.n3 s.c3,.slice s.a4 s.n4 s.c4,.slice s.a5 s.n5 s.c5,.slice s.a6 s.n6 s.c6,.slice s.a7 s.n7 s.c7,.int .i64 x.need,.int .i64 x.nomap,.int .i64 x.noany,.slice s.a8 s.n8 s.c8,.slice s.a9 s.n9 s.c9] (0,0) _ hg Tryz.underlying46 rfl (by kernel_rfl) ?_
    exact hKQ.out _ _ (hI.put 0 7 rfl rfl (by rw [hz]; decide) rfl hUN rfl HBB (cp1i_stb s x l w.heap.size w1.heap.size w.heap.size (w.heap.size)) (Below.refl _ _) rfl)
   ·intro lQ b W hI hUN hED KQ hKQ
    have f0:aT b 7=.agg #[.int .i64 x.ser,.slice s.a1 s.n1 s.c1,.slice s.a2 s.n2 s.c2,.int .i64 x.frm,.int .i64 x.til,.int .i64 x.key.1,.int .u64 x.key.2.1,.int .i64 x.key.2.2,.bool x.ca,.int .i64 x.room,.int .i64 x.uses,.slice s.a3 s.n3 s.c3,.slice s.a4 s.n4 s.c4,.slice s.a5 s.n5 s.c5,.slice s.a6 s.n6 s.c6,.slice s.a7 s.n7 s.c7,.int .i64 x.need,.int .i64 x.nomap,.int .i64 x.noany,.slice s.a8 s.n8 s.c8,.slice s.a9 s.n9 s.c9]:=hI.got 0 (of_decide_eq_true rfl) (edge hED 0 (by kernel_rfl)) rfl
    refine opw_call 46 #[.tmp 7] _ _ _ rfl Tryz.func46 (by kernel_rfl) rfl #[.agg #[.int .i64 x.ser,.slice s.a1 s.n1 s.c1,.slice s.a2 s.n2 s.c2,.int .i64 x.frm,.int .i64 x.til,.int .i64 x.key.1,.int .u64 x.key.2.1,.int .i64 x.key.2.2,.bool x.ca,.int .i64 x.room,.int .i64 x.uses,.slice s.a3 s.n3 s.c3,.slice s.a4 s.n4 s.c4,.slice s.a5 s.n5 s.c5,.slice s.a6 s.n6 s.c6,.slice s.a7 s.n7 s.c7,.int .i64 x.need,.int .i64 x.nomap,.int .i64 x.noany,.slice s.a8 s.n8 s.c8,.slice s.a9 s.n9 s.c9]] (by simp [ev,f0]) ?_
    refine (HB2.out W hI.bel).mono ?_
    rintro r W2 ⟨⟨a1,n1,c1,k1,m1,e1,rfl,hzI⟩,hb⟩
    exact ⟨_,rfl,hKQ.out _ _ (hI.put 1 8 rfl rfl (by rw [hz]; decide) rfl hUN rfl HBB (cp1i_stb s x l w.heap.size w1.heap.size w.heap.size (w.heap.size)) hb ⟨a1,n1,c1,k1,m1,e1,rfl,hzI.mono (Nat.le_trans HRR hI.bel.size)⟩)⟩
   ·intro lQ b W hI hUN hED KQ hKQ
    exact opw_field 46 1 18 rfl _ ((hI.fr.same 1 (by decide)).trans g1) _ (by kernel_rfl) (hKQ.out _ _ (hI.put 2 9 rfl rfl (by rw [hz]; decide) rfl hUN rfl HBB (cp1i_stb s x l w.heap.size w1.heap.size w.heap.size (w.heap.size)) (Below.refl _ _) rfl))
   ·intro lQ b W hI hUN hED KQ hKQ
    have f:=hI.got 2 (of_decide_eq_true rfl) (edge hED 2 (by kernel_rfl)) rfl
    have hg:=(hI.vot 12 (of_decide_eq_true rfl) (of_decide_eq_true rfl) rfl)
    have hc:W.cell? ⟨w.heap.size,20,none⟩=some (.slice s.a9 s.n9 s.c9):=(cell_of_row _ _ 20 _ _ (0,0) hg).trans rfl
    exact opw_load1 32 9 rfl _ f _ (by simp [Instr.loadAt,go_sem,hc]) (hKQ.out _ _ (hI.put 3 10 rfl rfl (by rw [hz]; decide) rfl hUN rfl HBB (cp1i_stb s x l w.heap.size w1.heap.size w.heap.size (w.heap.size)) (Below.refl _ _) rfl))
   ·intro lQ b W hI hUN hED KQ hKQ
    have f0:aT b 10=.slice s.a9 s.n9 s.c9:=hI.got 3 (of_decide_eq_true rfl) (edge hED 3 (by kernel_rfl)) rfl
    refine opw_call 60 #[.tmp 10] _ _ _ rfl Tryz.func60 (by kernel_rfl) rfl #[.slice s.a9 s.n9 s.c9] (by simp [ev,f0]) ?_
    refine (HSG.out W hI.bel).mono ?_
    rintro r W2 ⟨⟨a2,n2,c2,k2,m2,e2,rfl,hzI⟩,hb⟩
    exact ⟨_,rfl,hKQ.out _ _ (hI.put 4 11 rfl rfl (by rw [hz]; decide) rfl hUN rfl HBB (cp1i_stb s x l w.heap.size w1.heap.size w.heap.size (w.heap.size)) hb ⟨a2,n2,c2,k2,m2,e2,rfl,(hzI.mono (Nat.le_trans HRR hI.bel.size)).le (by decide)⟩)⟩
   ·intro lQ b W hI hUN hED KQ hKQ
    obtain ⟨a1,n1,c1,k1,m1,e1,f1,o1⟩:=hI.got 1 (of_decide_eq_true rfl) (edge hED 1 (by kernel_rfl)) rfl
    replace f1:aT b 8=.agg #[.int .i64 (boxI 1 (ceK x)).cls,.int .i64 (boxI 1 (ceK x)).tag,.bool (boxI 1 (ceK x)).cons,.slice a1 n1 c1,.slice k1 m1 e1]:=f1
    obtain ⟨a2,n2,c2,k2,m2,e2,f2,o2⟩:=hI.got 4 (of_decide_eq_true rfl) (edge hED 4 (by kernel_rfl)) rfl
    replace f2:aT b 11=.agg #[.int .i64 (bytI x.sig).cls,.int .i64 (bytI x.sig).tag,.bool (bytI x.sig).cons,.slice a2 n2 c2,.slice k2 m2 e2]:=f2
    refine opw_buildSliceT _ 2 _ rfl #[(0,.agg #[.int .i64 (boxI 1 (ceK x)).cls,.int .i64 (boxI 1 (ceK x)).tag,.bool (boxI 1 (ceK x)).cons,.slice a1 n1 c1,.slice k1 m1 e1]),(1,.agg #[.int .i64 (bytI x.sig).cls,.int .i64 (bytI x.sig).tag,.bool (bytI x.sig).cons,.slice a2 n2 c2,.slice k2 m2 e2])] (by simp [ev,f1,f2]) (.slice (some ⟨W.heap.size,0,none⟩) 2 2) (W.alloc (.cells #[.int .i64 (boxI 1 (ceK x)).cls,.int .i64 (boxI 1 (ceK x)).tag,.bool (boxI 1 (ceK x)).cons,.slice a1 n1 c1,.slice k1 m1 e1,.int .i64 (bytI x.sig).cls,.int .i64 (bytI x.sig).tag,.bool (bytI x.sig).cons,.slice a2 n2 c2,.slice k2 m2 e2] 75)) (by kernel_rfl) ?_
    exact hKQ.out _ _ (hI.put 5 12 rfl rfl (by rw [hz]; decide) rfl hUN rfl HBB (cp1i_stb s x l w.heap.size w1.heap.size w.heap.size (w.heap.size)) ((Below.refl _ _).alloc (Nat.le_refl _) _) ⟨W.heap.size,rfl,kidZ_n2 (Nat.le_trans HRR hI.bel.size) o1 o2⟩)
   ·intro lQ b W hI hUN hED KQ hKQ
    obtain ⟨gr,f0,o0⟩:=hI.got 5 (of_decide_eq_true rfl) (edge hED 5 (by kernel_rfl)) rfl
    replace f0:aT b 12=.slice (some ⟨gr,0,none⟩) 2 2:=f0
    refine opw_call 59 #[.const (.int .i64 2),.tmp 12] _ _ _ rfl Tryz.func59 (by kernel_rfl) rfl #[.int .i64 2,.slice (some ⟨gr,0,none⟩) 2 2] (by simp [ev,evc,f0]) ?_
    refine (ownItem_R 2 o0 rfl).mono ?_
    rintro r W2 ⟨⟨a0,n0,c0,k0,m0,e0,rfl,hzI⟩,hb⟩
    exact ⟨_,rfl,hKQ.out _ _ (hI.put 6 13 rfl rfl (by rw [hz]; decide) rfl hUN rfl HBB (cp1i_stb s x l w.heap.size w1.heap.size w.heap.size (w.heap.size)) hb ⟨a0,n0,c0,k0,m0,e0,rfl,hzI⟩)⟩
   ·intro lQ b W hI hUN hED KQ hKQ
    obtain ⟨a0,n0,c0,k0,m0,e0,f0,o0⟩:=hI.got 6 (of_decide_eq_true rfl) (edge hED 6 (by kernel_rfl)) rfl
    replace f0:aT b 13=.agg #[.int .i64 (boxI 2 [boxI 1 (ceK x),bytI x.sig]).cls,.int .i64 (boxI 2 [boxI 1 (ceK x),bytI x.sig]).tag,.bool (boxI 2 [boxI 1 (ceK x),bytI x.sig]).cons,.slice a0 n0 c0,.slice k0 m0 e0]:=f0
    refine opw_call 45 #[.tmp 13] _ _ _ rfl Tryz.func45 (by kernel_rfl) rfl #[.agg #[.int .i64 (boxI 2 [boxI 1 (ceK x),bytI x.sig]).cls,.int .i64 (boxI 2 [boxI 1 (ceK x),bytI x.sig]).tag,.bool (boxI 2 [boxI 1 (ceK x),bytI x.sig]).cons,.slice a0 n0 c0,.slice k0 m0 e0]] (by simp [ev,f0]) ?_
    refine (itemBytes_R o0 HE.out).mono ?_
    rintro r W2 ⟨a4,c4,rfl,ho,hb⟩
    exact ⟨_,rfl,hKQ.out _ _ (hI.put 7 14 rfl rfl (by rw [hz]; decide) rfl hUN rfl HBB (cp1i_stb s x l w.heap.size w1.heap.size w.heap.size (w.heap.size)) hb ⟨a4,c4,rfl,ho.mono (Nat.le_trans HBB hI.bel.size)⟩)⟩
   ·intro lQ b W hI hUN hED KQ hKQ
    have f:=hI.got 7 (of_decide_eq_true rfl) (edge hED 7 (by kernel_rfl)) rfl
    obtain ⟨a4,c4,f,o_0⟩:=f
    exact opw_extract 14 0 rfl _ _ f rfl (hKQ.out _ _ (hI.put 8 15 rfl rfl (by rw [hz]; decide) rfl hUN rfl HBB (cp1i_stb s x l w.heap.size w1.heap.size w.heap.size (w.heap.size)) (Below.refl _ _) ⟨a4,c4,rfl,o_0⟩))
   ·intro lQ b W hI hUN hED KQ hKQ
    have f:=hI.got 7 (of_decide_eq_true rfl) (edge hED 7 (by kernel_rfl)) rfl
    obtain ⟨a4,c4,f,o_0⟩:=f
    exact opw_extract 14 1 rfl _ _ f rfl (hKQ.out _ _ (hI.put 9 16 rfl rfl (by rw [hz]; decide) rfl hUN rfl HBB (cp1i_stb s x l w.heap.size w1.heap.size w.heap.size (w.heap.size)) (Below.refl _ _) rfl))
   ·intro lQ b W hI hUN hED KQ hKQ
    have f:=hI.got 8 (of_decide_eq_true rfl) (edge hED 8 (by kernel_rfl)) rfl
    exact opw_assign 15 rfl (hKQ.out _ _ (hI.put 10 2 rfl rfl (by rw [hz]; decide) rfl hUN rfl HBB (cp1i_stb s x l w.heap.size w1.heap.size w.heap.size (w.heap.size)) (Below.refl _ _) f))
   ·intro lQ b W hI hUN hED KQ hKQ
    have f:=hI.got 9 (of_decide_eq_true rfl) (edge hED 9 (by kernel_rfl)) rfl
    exact opw_assign 16 rfl (hKQ.out _ _ (hI.put 11 3 rfl rfl (by rw [hz]; decide) rfl hUN rfl HBB (cp1i_stb s x l w.heap.size w1.heap.size w.heap.size (w.heap.size)) (Below.refl _ _) f))
  ·intro b W hf hb F
   obtain ⟨a4,c4,e2,ho⟩:=F 10 (of_decide_eq_true rfl) rfl
   have e3:=F 11 (of_decide_eq_true rfl) rfl
   replace e2:aT b 2=.slice a4 l.length c4:=e2
   replace e3:aT b 3=.bool true:=e3
   rw [hf.eq]
   simp only [puts,Act.put,List.setIfInBounds_toArray,List.set_cons_zero,List.set_cons_succ,e2,e3]
   clear hf F e2 e3
   generalize aT b=AT
   clear b
   go_wp2
   go_ret2
   exact ⟨a4,c4,rfl,ho,B1.out.trans hb⟩
 ·obtain rfl:v1=false:=sayB_f hv1 hP
  clear hv1 hP
  go_wp2
  go_ret2
  exact ⟨none,0,rfl,own_nilM _ _,B1.out⟩
def cp1s (s:CES)(x:CE)(l:List Int)(L R G B:Nat):RSpec where
 m:=9
 n:=10
 slots:=[3,4,5,6,7,8,9,10,2,100009]
 kills:=[[],[],[],[],[],[],[],[],[],[]]
 pres:=[[],[],[],[],[],[],[],[],[],[]]
 fact:=fun k v w=>match k with
  | 0=>v=.agg #[.int .i64 x.ser,.slice s.a1 s.n1 s.c1,.slice s.a2 s.n2 s.c2,.int .i64 x.frm,.int .i64 x.til,.int .i64 x.key.1,.int .u64 x.key.2.1,.int .i64 x.key.2.2,.bool x.ca,.int .i64 x.room,.int .i64 x.uses,.slice s.a3 s.n3 s.c3,.slice s.a4 s.n4 s.c4,.slice s.a5 s.n5 s.c5,.slice s.a6 s.n6 s.c6,.slice s.a7 s.n7 s.c7,.int .i64 x.need,.int .i64 x.nomap,.int .i64 x.noany,.slice s.a8 s.n8 s.c8,.slice s.a9 s.n9 s.c9]
  | 1=>∃ a1 n1 c1 k1 m1 e1,v=.agg #[.int .i64 (boxI 1 (ceK x)).cls,.int .i64 (boxI 1 (ceK x)).tag,.bool (boxI 1 (ceK x)).cons,.slice a1 n1 c1,.slice k1 m1 e1]∧ItZ L R 7 w (boxI 1 (ceK x)) a1 n1 c1 k1 m1 e1
  | 2=>v=.pointer (some ⟨G,20,none⟩)
  | 3=>v=.slice s.a9 s.n9 s.c9
  | 4=>∃ a2 n2 c2 k2 m2 e2,v=.agg #[.int .i64 (bytI x.sig).cls,.int .i64 (bytI x.sig).tag,.bool (bytI x.sig).cons,.slice a2 n2 c2,.slice k2 m2 e2]∧ItZ L R 7 w (bytI x.sig) a2 n2 c2 k2 m2 e2
  | 5=>∃ gr,v=.slice (some ⟨gr,0,none⟩) 2 2∧KidZ L R w gr 8 [boxI 1 (ceK x),bytI x.sig]
  | 6=>∃ a0 n0 c0 k0 m0 e0,v=.agg #[.int .i64 (boxI 2 [boxI 1 (ceK x),bytI x.sig]).cls,.int .i64 (boxI 2 [boxI 1 (ceK x),bytI x.sig]).tag,.bool (boxI 2 [boxI 1 (ceK x),bytI x.sig]).cons,.slice a0 n0 c0,.slice k0 m0 e0]∧ItZ L R 8 w (boxI 2 [boxI 1 (ceK x),bytI x.sig]) a0 n0 c0 k0 m0 e0
  | 7=>∃ a4 c4,v=.slice a4 l.length c4∧Own B w a4 l.length c4 l
  | 8=>∃ a4 c4,v=.slice a4 l.length c4∧Own B w a4 l.length c4 l
  | _=>w.heap[G]? = some (.cells #[.int .i64 x.ser,.slice s.a1 s.n1 s.c1,.slice s.a2 s.n2 s.c2,.int .i64 x.frm,.int .i64 x.til,.int .i64 x.key.1,.int .u64 x.key.2.1,.int .i64 x.key.2.2,.bool x.ca,.int .i64 x.room,.int .i64 x.uses,.slice s.a3 s.n3 s.c3,.slice s.a4 s.n4 s.c4,.slice s.a5 s.n5 s.c5,.slice s.a6 s.n6 s.c6,.slice s.a7 s.n7 s.c7,.int .i64 x.need,.int .i64 x.nomap,.int .i64 x.noany,.slice s.a8 s.n8 s.c8,.slice s.a9 s.n9 s.c9] 46 (0,0))
theorem cp1s_stb (s:CES)(x:CE)(l:List Int)(L R G B:Nat)(k:Nat)(hk:k<10):StB ((cp1s s x l L R G (B)).fact k):=by
 match k,hk with
 | 0,_=>exact fun _ _ _ h _=>h
 | 1,_=>exact fun _ _ _ ⟨a1,n1,c1,k1,m1,e1,hv,q_0⟩ hb=>⟨a1,n1,c1,k1,m1,e1,hv,q_0.kept hb⟩
 | 2,_=>exact fun _ _ _ h _=>h
 | 3,_=>exact fun _ _ _ h _=>h
 | 4,_=>exact fun _ _ _ ⟨a2,n2,c2,k2,m2,e2,hv,q_0⟩ hb=>⟨a2,n2,c2,k2,m2,e2,hv,q_0.kept hb⟩
 | 5,_=>exact fun _ _ _ ⟨gr,hv,q_0⟩ hb=>⟨gr,hv,q_0.kept hb⟩
 | 6,_=>exact fun _ _ _ ⟨a0,n0,c0,k0,m0,e0,hv,q_0⟩ hb=>⟨a0,n0,c0,k0,m0,e0,hv,q_0.kept hb⟩
 | 7,_=>exact fun _ _ _ ⟨a4,c4,hv,q_0⟩ hb=>⟨a4,c4,hv,q_0.kept hb⟩
 | 8,_=>exact fun _ _ _ ⟨a4,c4,hv,q_0⟩ hb=>⟨a4,c4,hv,q_0.kept hb⟩
 | 9,_=>exact fun _ _ _ q_0 hb=>below_kept q_0 hb
 | k+10,hk=>omega
theorem l9CertBytes_any (s:CES)(x:CE)(l:List Int)(w:World)(h:CER w s x)(hu:U64 x.key.2.1)(hP:ceP x)(hE:enc 12 (boxI 2 [boxI 1 (ceK x),bytI x.sig])=some l) :
  Calls Tryz.prog 58 #[CEv s x] w fun e w'=>∃ a' c',e=.returned (.slice a' l.length c')∧Own w.heap.size w' a' l.length c' l∧Below w.heap.size w w':=by
 show Calls Tryz.prog 58 #[.agg #[.int .i64 x.ser,.slice s.a1 s.n1 s.c1,.slice s.a2 s.n2 s.c2,.int .i64 x.frm,.int .i64 x.til,.int .i64 x.key.1,.int .u64 x.key.2.1,.int .i64 x.key.2.2,.bool x.ca,.int .i64 x.room,.int .i64 x.uses,.slice s.a3 s.n3 s.c3,.slice s.a4 s.n4 s.c4,.slice s.a5 s.n5 s.c5,.slice s.a6 s.n6 s.c6,.slice s.a7 s.n7 s.c7,.int .i64 x.need,.int .i64 x.nomap,.int .i64 x.noany,.slice s.a8 s.n8 s.c8,.slice s.a9 s.n9 s.c9]] w _
 obtain ⟨w0,hw0⟩:∃ w0,w0=w.alloc (.cells #[.int .i64 x.ser,.slice s.a1 s.n1 s.c1,.slice s.a2 s.n2 s.c2,.int .i64 x.frm,.int .i64 x.til,.int .i64 x.key.1,.int .u64 x.key.2.1,.int .i64 x.key.2.2,.bool x.ca,.int .i64 x.room,.int .i64 x.uses,.slice s.a3 s.n3 s.c3,.slice s.a4 s.n4 s.c4,.slice s.a5 s.n5 s.c5,.slice s.a6 s.n6 s.c6,.slice s.a7 s.n7 s.c7,.int .i64 x.need,.int .i64 x.nomap,.int .i64 x.noany,.slice s.a8 s.n8 s.c8,.slice s.a9 s.n9 s.c9] 46):=⟨_,rfl⟩
 have B0:Hid (Below w.heap.size w w0):=by show Below _ _ _; rw [hw0]; exact (Below.refl _ _).alloc (Nat.le_refl _) _
 have L0:Hid (w0.heap[w.heap.size]? = some (.cells #[.int .i64 x.ser,.slice s.a1 s.n1 s.c1,.slice s.a2 s.n2 s.c2,.int .i64 x.frm,.int .i64 x.til,.int .i64 x.key.1,.int .u64 x.key.2.1,.int .i64 x.key.2.2,.bool x.ca,.int .i64 x.room,.int .i64 x.uses,.slice s.a3 s.n3 s.c3,.slice s.a4 s.n4 s.c4,.slice s.a5 s.n5 s.c5,.slice s.a6 s.n6 s.c6,.slice s.a7 s.n7 s.c7,.int .i64 x.need,.int .i64 x.nomap,.int .i64 x.noany,.slice s.a8 s.n8 s.c8,.slice s.a9 s.n9 s.c9] 46 (0,0))):=by show _=_; rw [hw0]; exact heap_alloc_new w _
 have HBD:Hid (ceP x→∀ W,Below w.heap.size w W→Calls Tryz.prog 37 #[.agg #[.int .i64 x.ser,.slice s.a1 s.n1 s.c1,.slice s.a2 s.n2 s.c2,.int .i64 x.frm,.int .i64 x.til,.int .i64 x.key.1,.int .u64 x.key.2.1,.int .i64 x.key.2.2,.bool x.ca,.int .i64 x.room,.int .i64 x.uses,.slice s.a3 s.n3 s.c3,.slice s.a4 s.n4 s.c4,.slice s.a5 s.n5 s.c5,.slice s.a6 s.n6 s.c6,.slice s.a7 s.n7 s.c7,.int .i64 x.need,.int .i64 x.nomap,.int .i64 x.noany,.slice s.a8 s.n8 s.c8,.slice s.a9 s.n9 s.c9]] W fun e w'=>ItR 0 W.heap.size 7 (boxI 1 (ceK x)) e w'∧Below W.heap.size W w'):=fun hp W hW=>l9Body_R s x W (h.kept hW) (ceS_of h hu hp)
 have HSG:Hid (ceP x→∀ W,Below w.heap.size w W→Calls Tryz.prog 83 #[.slice s.a9 s.n9 s.c9] W fun e w'=>ItR 0 W.heap.size 1 (bytI x.sig) e w'∧Below W.heap.size W w'):=fun hp W hW=>l9Bytes_R s.a9 s.n9 s.c9 x.sig 0 W (h.r9.kept hW) h.nl9 (by have:=(ceB_of hp).sig; have:=h.r9.len; omega)
 have HE:Hid (enc 12 (boxI 2 [boxI 1 (ceK x),bytI x.sig])=some l):=hE
 have HB2:Hid (∀ W,Below w.heap.size w0 W→Calls Tryz.prog 37 #[.agg #[.int .i64 x.ser,.slice s.a1 s.n1 s.c1,.slice s.a2 s.n2 s.c2,.int .i64 x.frm,.int .i64 x.til,.int .i64 x.key.1,.int .u64 x.key.2.1,.int .i64 x.key.2.2,.bool x.ca,.int .i64 x.room,.int .i64 x.uses,.slice s.a3 s.n3 s.c3,.slice s.a4 s.n4 s.c4,.slice s.a5 s.n5 s.c5,.slice s.a6 s.n6 s.c6,.slice s.a7 s.n7 s.c7,.int .i64 x.need,.int .i64 x.nomap,.int .i64 x.noany,.slice s.a8 s.n8 s.c8,.slice s.a9 s.n9 s.c9]] W fun e w'=>ItR 0 W.heap.size 7 (boxI 1 (ceK x)) e w'∧Below W.heap.size W w'):=fun W hW=>HBD.out hP W (B0.out.trans hW)
 have HSH:Hid (∀ W,Below w.heap.size w0 W→Calls Tryz.prog 83 #[.slice s.a9 s.n9 s.c9] W fun e w'=>ItR 0 W.heap.size 1 (bytI x.sig) e w'∧Below W.heap.size W w'):=fun W hW=>HSG.out hP W (B0.out.trans hW)
 have HBB:w.heap.size≤w0.heap.size:=B0.out.size
 have HRR:w0.heap.size≤w0.heap.size:=Nat.le_refl _
 clear h hu hP hE HBD HSG
 go_enter Tryz.func58,Tryz.ntmps58
 go_upto_region 1 with fail
 rw [← hw0]
 clear hw0
 refine wp_region_ri (cp1s s x l 0 w0.heap.size w.heap.size (w.heap.size)) [2,3,4,5,6,7,8,9,10] (w.heap.size) (fun a0=>a0.tmps.size=11∧aT a0 1=.pointer (some ⟨w.heap.size,0,none⟩)) (by kernel_rfl) rfl (by kernel_rfl) rfl ⟨rfl,rfl⟩ (cp1s_stb s x l 0 w0.heap.size w.heap.size (w.heap.size)) ?_ ?_ ?_
 ·intro k hk hk2
  match k,hk,hk2 with
  | 9,_,_=>exact L0.out
  | 0,hk,_=>exact absurd hk (by show ¬ (9≤0); omega)
  | 1,hk,_=>exact absurd hk (by show ¬ (9≤1); omega)
  | 2,hk,_=>exact absurd hk (by show ¬ (9≤2); omega)
  | 3,hk,_=>exact absurd hk (by show ¬ (9≤3); omega)
  | 4,hk,_=>exact absurd hk (by show ¬ (9≤4); omega)
  | 5,hk,_=>exact absurd hk (by show ¬ (9≤5); omega)
  | 6,hk,_=>exact absurd hk (by show ¬ (9≤6); omega)
  | 7,hk,_=>exact absurd hk (by show ¬ (9≤7); omega)
  | 8,hk,_=>exact absurd hk (by show ¬ (9≤8); omega)
  | k+10,_,hk2=>exact absurd hk2 (by show ¬ (k+10<10); omega)
 ·rintro a0 ⟨hz,g1⟩
  refine StepsRI.cons ?_ (StepsRI.cons ?_ (StepsRI.cons ?_ (StepsRI.cons ?_ (StepsRI.cons ?_ (StepsRI.cons ?_ (StepsRI.cons ?_ (StepsRI.cons ?_ (StepsRI.cons ?_ (StepsRI.nil)))))))))
  ·intro lQ b W hI hUN hED KQ hKQ
   have hg:=(hI.vot 9 (of_decide_eq_true rfl) (of_decide_eq_true rfl) rfl)
   refine wp_load_row 46 _ rfl (w.heap.size) ((hI.fr.same 1 (by decide)).trans g1) 46 #[.int .i64 x.ser,.slice s.a1 s.n1 s.c1,.slice s.a2 s.n2 s.c2,.int .i64 x.frm,.int .i64 x.til,.int .i64 x.key.1,.int .u64 x.key.2.1,.int .i64 x.key.2.2,.bool x.ca,.int .i64 x.room,.int .i64 x.uses,.slice s.a3 s.n3 s.c3,.slice s.a4 s.n4 s.c4,.slice s.a5 s.n5 s.c5,.slice s.a6 s.n6 s.c6,.slice s.a7 s.n7 s.c7,.int .i64 x.need,.int .i64 x.nomap,.int .i64 x.noany,.slice s.a8 s.n8 s.c8,.slice s.a9 s.n9 s.c9] (0,0) _ hg Tryz.underlying46 rfl (by kernel_rfl) ?_
   exact hKQ.out _ _ (hI.put 0 3 rfl rfl (by rw [hz]; decide) rfl hUN rfl HBB (cp1s_stb s x l 0 w0.heap.size w.heap.size (w.heap.size)) (Below.refl _ _) rfl)
  ·intro lQ b W hI hUN hED KQ hKQ
   have f0:aT b 3=.agg #[.int .i64 x.ser,.slice s.a1 s.n1 s.c1,.slice s.a2 s.n2 s.c2,.int .i64 x.frm,.int .i64 x.til,.int .i64 x.key.1,.int .u64 x.key.2.1,.int .i64 x.key.2.2,.bool x.ca,.int .i64 x.room,.int .i64 x.uses,.slice s.a3 s.n3 s.c3,.slice s.a4 s.n4 s.c4,.slice s.a5 s.n5 s.c5,.slice s.a6 s.n6 s.c6,.slice s.a7 s.n7 s.c7,.int .i64 x.need,.int .i64 x.nomap,.int .i64 x.noany,.slice s.a8 s.n8 s.c8,.slice s.a9 s.n9 s.c9]:=hI.got 0 (of_decide_eq_true rfl) (edge hED 0 (by kernel_rfl)) rfl
   refine opw_call 37 #[.tmp 3] _ _ _ rfl Tryz.func37 (by kernel_rfl) rfl #[.agg #[.int .i64 x.ser,.slice s.a1 s.n1 s.c1,.slice s.a2 s.n2 s.c2,.int .i64 x.frm,.int .i64 x.til,.int .i64 x.key.1,.int .u64 x.key.2.1,.int .i64 x.key.2.2,.bool x.ca,.int .i64 x.room,.int .i64 x.uses,.slice s.a3 s.n3 s.c3,.slice s.a4 s.n4 s.c4,.slice s.a5 s.n5 s.c5,.slice s.a6 s.n6 s.c6,.slice s.a7 s.n7 s.c7,.int .i64 x.need,.int .i64 x.nomap,.int .i64 x.noany,.slice s.a8 s.n8 s.c8,.slice s.a9 s.n9 s.c9]] (by simp [ev,f0]) ?_
   refine (HB2.out W hI.bel).mono ?_
   rintro r W2 ⟨⟨a1,n1,c1,k1,m1,e1,rfl,hzI⟩,hb⟩
   exact ⟨_,rfl,hKQ.out _ _ (hI.put 1 4 rfl rfl (by rw [hz]; decide) rfl hUN rfl HBB (cp1s_stb s x l 0 w0.heap.size w.heap.size (w.heap.size)) hb ⟨a1,n1,c1,k1,m1,e1,rfl,hzI.mono (Nat.le_trans HRR hI.bel.size)⟩)⟩
  ·intro lQ b W hI hUN hED KQ hKQ
   exact opw_field 46 1 18 rfl _ ((hI.fr.same 1 (by decide)).trans g1) _ (by kernel_rfl) (hKQ.out _ _ (hI.put 2 5 rfl rfl (by rw [hz]; decide) rfl hUN rfl HBB (cp1s_stb s x l 0 w0.heap.size w.heap.size (w.heap.size)) (Below.refl _ _) rfl))
  ·intro lQ b W hI hUN hED KQ hKQ
   have f:=hI.got 2 (of_decide_eq_true rfl) (edge hED 2 (by kernel_rfl)) rfl
   have hg:=(hI.vot 9 (of_decide_eq_true rfl) (of_decide_eq_true rfl) rfl)
   have hc:W.cell? ⟨w.heap.size,20,none⟩=some (.slice s.a9 s.n9 s.c9):=(cell_of_row _ _ 20 _ _ (0,0) hg).trans rfl
   exact opw_load1 32 5 rfl _ f _ (by simp [Instr.loadAt,go_sem,hc]) (hKQ.out _ _ (hI.put 3 6 rfl rfl (by rw [hz]; decide) rfl hUN rfl HBB (cp1s_stb s x l 0 w0.heap.size w.heap.size (w.heap.size)) (Below.refl _ _) rfl))
  ·intro lQ b W hI hUN hED KQ hKQ
   have f0:aT b 6=.slice s.a9 s.n9 s.c9:=hI.got 3 (of_decide_eq_true rfl) (edge hED 3 (by kernel_rfl)) rfl
   refine opw_call 83 #[.tmp 6] _ _ _ rfl Tryz.func83 (by kernel_rfl) rfl #[.slice s.a9 s.n9 s.c9] (by simp [ev,f0]) ?_
   refine (HSH.out W hI.bel).mono ?_
   rintro r W2 ⟨⟨a2,n2,c2,k2,m2,e2,rfl,hzI⟩,hb⟩
   exact ⟨_,rfl,hKQ.out _ _ (hI.put 4 7 rfl rfl (by rw [hz]; decide) rfl hUN rfl HBB (cp1s_stb s x l 0 w0.heap.size w.heap.size (w.heap.size)) hb ⟨a2,n2,c2,k2,m2,e2,rfl,(hzI.mono (Nat.le_trans HRR hI.bel.size)).le (by decide)⟩)⟩
  ·intro lQ b W hI hUN hED KQ hKQ
   obtain ⟨a1,n1,c1,k1,m1,e1,f1,o1⟩:=hI.got 1 (of_decide_eq_true rfl) (edge hED 1 (by kernel_rfl)) rfl
   replace f1:aT b 4=.agg #[.int .i64 (boxI 1 (ceK x)).cls,.int .i64 (boxI 1 (ceK x)).tag,.bool (boxI 1 (ceK x)).cons,.slice a1 n1 c1,.slice k1 m1 e1]:=f1
   obtain ⟨a2,n2,c2,k2,m2,e2,f2,o2⟩:=hI.got 4 (of_decide_eq_true rfl) (edge hED 4 (by kernel_rfl)) rfl
   replace f2:aT b 7=.agg #[.int .i64 (bytI x.sig).cls,.int .i64 (bytI x.sig).tag,.bool (bytI x.sig).cons,.slice a2 n2 c2,.slice k2 m2 e2]:=f2
   refine opw_buildSliceT _ 2 _ rfl #[(0,.agg #[.int .i64 (boxI 1 (ceK x)).cls,.int .i64 (boxI 1 (ceK x)).tag,.bool (boxI 1 (ceK x)).cons,.slice a1 n1 c1,.slice k1 m1 e1]),(1,.agg #[.int .i64 (bytI x.sig).cls,.int .i64 (bytI x.sig).tag,.bool (bytI x.sig).cons,.slice a2 n2 c2,.slice k2 m2 e2])] (by simp [ev,f1,f2]) (.slice (some ⟨W.heap.size,0,none⟩) 2 2) (W.alloc (.cells #[.int .i64 (boxI 1 (ceK x)).cls,.int .i64 (boxI 1 (ceK x)).tag,.bool (boxI 1 (ceK x)).cons,.slice a1 n1 c1,.slice k1 m1 e1,.int .i64 (bytI x.sig).cls,.int .i64 (bytI x.sig).tag,.bool (bytI x.sig).cons,.slice a2 n2 c2,.slice k2 m2 e2] 75)) (by kernel_rfl) ?_
   exact hKQ.out _ _ (hI.put 5 8 rfl rfl (by rw [hz]; decide) rfl hUN rfl HBB (cp1s_stb s x l 0 w0.heap.size w.heap.size (w.heap.size)) ((Below.refl _ _).alloc (Nat.le_refl _) _) ⟨W.heap.size,rfl,kidZ_n2 (Nat.le_trans HRR hI.bel.size) o1 o2⟩)
  ·intro lQ b W hI hUN hED KQ hKQ
   obtain ⟨gr,f0,o0⟩:=hI.got 5 (of_decide_eq_true rfl) (edge hED 5 (by kernel_rfl)) rfl
   replace f0:aT b 8=.slice (some ⟨gr,0,none⟩) 2 2:=f0
   refine opw_call 84 #[.const (.int .i64 1),.const (.int .i64 2),.tmp 8] _ _ _ rfl Tryz.func84 (by kernel_rfl) rfl #[.int .i64 1,.int .i64 2,.slice (some ⟨gr,0,none⟩) 2 2] (by simp [ev,evc,f0]) ?_
   refine (l2Box_R 2 o0 rfl).mono ?_
   rintro r W2 ⟨⟨a0,n0,c0,k0,m0,e0,rfl,hzI⟩,hb⟩
   exact ⟨_,rfl,hKQ.out _ _ (hI.put 6 9 rfl rfl (by rw [hz]; decide) rfl hUN rfl HBB (cp1s_stb s x l 0 w0.heap.size w.heap.size (w.heap.size)) hb ⟨a0,n0,c0,k0,m0,e0,rfl,hzI⟩)⟩
  ·intro lQ b W hI hUN hED KQ hKQ
   obtain ⟨a0,n0,c0,k0,m0,e0,f0,o0⟩:=hI.got 6 (of_decide_eq_true rfl) (edge hED 6 (by kernel_rfl)) rfl
   replace f0:aT b 9=.agg #[.int .i64 (boxI 2 [boxI 1 (ceK x),bytI x.sig]).cls,.int .i64 (boxI 2 [boxI 1 (ceK x),bytI x.sig]).tag,.bool (boxI 2 [boxI 1 (ceK x),bytI x.sig]).cons,.slice a0 n0 c0,.slice k0 m0 e0]:=f0
   refine opw_call 36 #[.tmp 9] _ _ _ rfl Tryz.func36 (by kernel_rfl) rfl #[.agg #[.int .i64 (boxI 2 [boxI 1 (ceK x),bytI x.sig]).cls,.int .i64 (boxI 2 [boxI 1 (ceK x),bytI x.sig]).tag,.bool (boxI 2 [boxI 1 (ceK x),bytI x.sig]).cons,.slice a0 n0 c0,.slice k0 m0 e0]] (by simp [ev,f0]) ?_
   refine (l2Bytes_R o0 HE.out).mono ?_
   rintro r W2 ⟨a4,c4,rfl,ho,hb⟩
   exact ⟨_,rfl,hKQ.out _ _ (hI.put 7 10 rfl rfl (by rw [hz]; decide) rfl hUN rfl HBB (cp1s_stb s x l 0 w0.heap.size w.heap.size (w.heap.size)) hb ⟨a4,c4,rfl,ho.mono (Nat.le_trans HBB hI.bel.size)⟩)⟩
  ·intro lQ b W hI hUN hED KQ hKQ
   have f:=hI.got 7 (of_decide_eq_true rfl) (edge hED 7 (by kernel_rfl)) rfl
   exact opw_assign 10 rfl (hKQ.out _ _ (hI.put 8 2 rfl rfl (by rw [hz]; decide) rfl hUN rfl HBB (cp1s_stb s x l 0 w0.heap.size w.heap.size (w.heap.size)) (Below.refl _ _) f))
 ·intro b W hf hb F
  obtain ⟨a4,c4,e2,ho⟩:=F 8 (of_decide_eq_true rfl) rfl
  replace e2:aT b 2=.slice a4 l.length c4:=e2
  rw [hf.eq]
  simp only [puts,Act.put,List.setIfInBounds_toArray,List.set_cons_zero,List.set_cons_succ,e2]
  clear hf F e2
  generalize aT b=AT
  clear b
  go_wp2
  go_ret
  exact ⟨a4,c4,rfl,ho,B0.out.trans hb⟩
open Go.RowKit Go.Sort
def fgV (bo:Bool)(l:List Int):Int:=if bo then hashL l else 0
theorem implFinger_any (s:CES)(x:CE)(bo:Bool)(l:List Int)(w:World)(hm:MaxW w)(h:CER w s x)(hz:CEZ x)(ht:CET s)(hu:U64 x.key.2.1)(hf:CbR 2 x bo l)(hl:l.length≤20000) :
  Calls Tryz.prog 20 #[CEv s x] w fun e w'=>e=.returned (.int .u64 (fgV bo l))∧Below w.heap.size w w':=by
 show Calls Tryz.prog 20 #[.agg #[.int .i64 x.ser,.slice s.a1 s.n1 s.c1,.slice s.a2 s.n2 s.c2,.int .i64 x.frm,.int .i64 x.til,.int .i64 x.key.1,.int .u64 x.key.2.1,.int .i64 x.key.2.2,.bool x.ca,.int .i64 x.room,.int .i64 x.uses,.slice s.a3 s.n3 s.c3,.slice s.a4 s.n4 s.c4,.slice s.a5 s.n5 s.c5,.slice s.a6 s.n6 s.c6,.slice s.a7 s.n7 s.c7,.int .i64 x.need,.int .i64 x.nomap,.int .i64 x.noany,.slice s.a8 s.n8 s.c8,.slice s.a9 s.n9 s.c9]] w _
 obtain ⟨w0,hw0⟩:∃ w0,w0=w.alloc (.cells #[.int .i64 x.ser,.slice s.a1 s.n1 s.c1,.slice s.a2 s.n2 s.c2,.int .i64 x.frm,.int .i64 x.til,.int .i64 x.key.1,.int .u64 x.key.2.1,.int .i64 x.key.2.2,.bool x.ca,.int .i64 x.room,.int .i64 x.uses,.slice s.a3 s.n3 s.c3,.slice s.a4 s.n4 s.c4,.slice s.a5 s.n5 s.c5,.slice s.a6 s.n6 s.c6,.slice s.a7 s.n7 s.c7,.int .i64 x.need,.int .i64 x.nomap,.int .i64 x.noany,.slice s.a8 s.n8 s.c8,.slice s.a9 s.n9 s.c9] 46):=⟨_,rfl⟩
 have B0:Hid (Below w.heap.size w w0):=by show Below _ _ _; rw [hw0]; exact (Below.refl _ _).alloc (Nat.le_refl _) _
 have L0:Hid (w0.heap[w.heap.size]? = some (.cells #[.int .i64 x.ser,.slice s.a1 s.n1 s.c1,.slice s.a2 s.n2 s.c2,.int .i64 x.frm,.int .i64 x.til,.int .i64 x.key.1,.int .u64 x.key.2.1,.int .i64 x.key.2.2,.bool x.ca,.int .i64 x.room,.int .i64 x.uses,.slice s.a3 s.n3 s.c3,.slice s.a4 s.n4 s.c4,.slice s.a5 s.n5 s.c5,.slice s.a6 s.n6 s.c6,.slice s.a7 s.n7 s.c7,.int .i64 x.need,.int .i64 x.nomap,.int .i64 x.noany,.slice s.a8 s.n8 s.c8,.slice s.a9 s.n9 s.c9] 46 (0,0))):=by show _=_; rw [hw0]; exact heap_alloc_new w _
 have HCB:Hid (Calls Tryz.prog 18 #[.agg #[.int .i64 x.ser,.slice s.a1 s.n1 s.c1,.slice s.a2 s.n2 s.c2,.int .i64 x.frm,.int .i64 x.til,.int .i64 x.key.1,.int .u64 x.key.2.1,.int .i64 x.key.2.2,.bool x.ca,.int .i64 x.room,.int .i64 x.uses,.slice s.a3 s.n3 s.c3,.slice s.a4 s.n4 s.c4,.slice s.a5 s.n5 s.c5,.slice s.a6 s.n6 s.c6,.slice s.a7 s.n7 s.c7,.int .i64 x.need,.int .i64 x.nomap,.int .i64 x.noany,.slice s.a8 s.n8 s.c8,.slice s.a9 s.n9 s.c9]] w0 fun e w'=>∃ a' c',e=.returned (.tuple #[.slice a' l.length c',.bool bo])∧Own w0.heap.size w' a' l.length c' l∧Below w0.heap.size w0 w'):=implCertBytes_any s x bo l w0 (hm.kept B0.out) (h.kept B0.out) hz ht hu hf
 clear h hz ht hu hm hf
 go_enter Tryz.func20,Tryz.ntmps20
 go_upto_region 1 with fail
 rw [← hw0]
 clear hw0
 go_wp2_with (first | (refine wpList_load_row rfl 46 _ rfl w.heap.size rfl 46 #[.int .i64 x.ser,.slice s.a1 s.n1 s.c1,.slice s.a2 s.n2 s.c2,.int .i64 x.frm,.int .i64 x.til,.int .i64 x.key.1,.int .u64 x.key.2.1,.int .i64 x.key.2.2,.bool x.ca,.int .i64 x.room,.int .i64 x.uses,.slice s.a3 s.n3 s.c3,.slice s.a4 s.n4 s.c4,.slice s.a5 s.n5 s.c5,.slice s.a6 s.n6 s.c6,.slice s.a7 s.n7 s.c7,.int .i64 x.need,.int .i64 x.nomap,.int .i64 x.noany,.slice s.a8 s.n8 s.c8,.slice s.a9 s.n9 s.c9] (0,0) _ L0.out Tryz.underlying46 rfl infoSize9 ?_) | fail)
 refine HCB.out.mono ?_
 rintro e w1 ⟨a1,c1,rfl,ho,hb1⟩
 have HR:Hid (Row w1 a1 l.length l):=ho.toRow
 have B1:Hid (Below w.heap.size w w1):=B0.out.trans (hb1.mono B0.out.size)
 clear ho hb1 B0 L0 HCB
 cases bo with
 | true =>
  go_wp2_with fail
  refine (implHash_any a1 l.length c1 l w1 HR.out (by omega)).mono ?_
  rintro e w4 ⟨rfl,hb4⟩
  have B4:Hid (Below w.heap.size w w4):=B1.out.trans (hb4.mono B1.out.size)
  clear hb4 B1
  go_wp2
  go_ret
  exact ⟨rfl,B4.out⟩
 | false =>
  go_wp2
  go_ret
  exact ⟨rfl,B1.out⟩
theorem specFinger_any (s:CES)(x:CE)(bo:Bool)(l:List Int)(w:World)(h:CER w s x)(hz:CEZ x)(ht:CET s)(hu:U64 x.key.2.1)(hf:CbR 2 x bo l)(hl:l.length≤20000) :
  Calls Tryz.prog 19 #[CEv s x] w fun e w'=>e=.returned (.int .u64 (fgV bo l))∧Below w.heap.size w w':=by
 show Calls Tryz.prog 19 #[.agg #[.int .i64 x.ser,.slice s.a1 s.n1 s.c1,.slice s.a2 s.n2 s.c2,.int .i64 x.frm,.int .i64 x.til,.int .i64 x.key.1,.int .u64 x.key.2.1,.int .i64 x.key.2.2,.bool x.ca,.int .i64 x.room,.int .i64 x.uses,.slice s.a3 s.n3 s.c3,.slice s.a4 s.n4 s.c4,.slice s.a5 s.n5 s.c5,.slice s.a6 s.n6 s.c6,.slice s.a7 s.n7 s.c7,.int .i64 x.need,.int .i64 x.nomap,.int .i64 x.noany,.slice s.a8 s.n8 s.c8,.slice s.a9 s.n9 s.c9]] w _
 obtain ⟨w0,hw0⟩:∃ w0,w0=w.alloc (.cells #[.int .i64 x.ser,.slice s.a1 s.n1 s.c1,.slice s.a2 s.n2 s.c2,.int .i64 x.frm,.int .i64 x.til,.int .i64 x.key.1,.int .u64 x.key.2.1,.int .i64 x.key.2.2,.bool x.ca,.int .i64 x.room,.int .i64 x.uses,.slice s.a3 s.n3 s.c3,.slice s.a4 s.n4 s.c4,.slice s.a5 s.n5 s.c5,.slice s.a6 s.n6 s.c6,.slice s.a7 s.n7 s.c7,.int .i64 x.need,.int .i64 x.nomap,.int .i64 x.noany,.slice s.a8 s.n8 s.c8,.slice s.a9 s.n9 s.c9] 46):=⟨_,rfl⟩
 have B0:Hid (Below w.heap.size w w0):=by show Below _ _ _; rw [hw0]; exact (Below.refl _ _).alloc (Nat.le_refl _) _
 have L0:Hid (w0.heap[w.heap.size]? = some (.cells #[.int .i64 x.ser,.slice s.a1 s.n1 s.c1,.slice s.a2 s.n2 s.c2,.int .i64 x.frm,.int .i64 x.til,.int .i64 x.key.1,.int .u64 x.key.2.1,.int .i64 x.key.2.2,.bool x.ca,.int .i64 x.room,.int .i64 x.uses,.slice s.a3 s.n3 s.c3,.slice s.a4 s.n4 s.c4,.slice s.a5 s.n5 s.c5,.slice s.a6 s.n6 s.c6,.slice s.a7 s.n7 s.c7,.int .i64 x.need,.int .i64 x.nomap,.int .i64 x.noany,.slice s.a8 s.n8 s.c8,.slice s.a9 s.n9 s.c9] 46 (0,0))):=by show _=_; rw [hw0]; exact heap_alloc_new w _
 have HOK:Hid (Calls Tryz.prog 35 #[.agg #[.int .i64 x.ser,.slice s.a1 s.n1 s.c1,.slice s.a2 s.n2 s.c2,.int .i64 x.frm,.int .i64 x.til,.int .i64 x.key.1,.int .u64 x.key.2.1,.int .i64 x.key.2.2,.bool x.ca,.int .i64 x.room,.int .i64 x.uses,.slice s.a3 s.n3 s.c3,.slice s.a4 s.n4 s.c4,.slice s.a5 s.n5 s.c5,.slice s.a6 s.n6 s.c6,.slice s.a7 s.n7 s.c7,.int .i64 x.need,.int .i64 x.nomap,.int .i64 x.noany,.slice s.a8 s.n8 s.c8,.slice s.a9 s.n9 s.c9]] w0 (Says (ceP x) w0)):=specCertOk_any s x w0 (h.kept B0.out) hz ht hu
 have HBD:Hid (ceP x→enc 12 (boxI 2 [boxI 1 (ceK x),bytI x.sig])=some l→∀ W,Below w.heap.size w W→Calls Tryz.prog 58 #[.agg #[.int .i64 x.ser,.slice s.a1 s.n1 s.c1,.slice s.a2 s.n2 s.c2,.int .i64 x.frm,.int .i64 x.til,.int .i64 x.key.1,.int .u64 x.key.2.1,.int .i64 x.key.2.2,.bool x.ca,.int .i64 x.room,.int .i64 x.uses,.slice s.a3 s.n3 s.c3,.slice s.a4 s.n4 s.c4,.slice s.a5 s.n5 s.c5,.slice s.a6 s.n6 s.c6,.slice s.a7 s.n7 s.c7,.int .i64 x.need,.int .i64 x.nomap,.int .i64 x.noany,.slice s.a8 s.n8 s.c8,.slice s.a9 s.n9 s.c9]] W fun e w'=>∃ a' c',e=.returned (.slice a' l.length c')∧Own W.heap.size w' a' l.length c' l∧Below W.heap.size W w'):=fun hp he W hW=>l9CertBytes_any s x l W (h.kept hW) hu hp he
 clear h hz ht hu
 go_enter Tryz.func19,Tryz.ntmps19
 go_upto_region 1 with fail
 rw [← hw0]
 clear hw0
 go_wp2_with (first | (refine wpList_load_row rfl 46 _ rfl w.heap.size rfl 46 #[.int .i64 x.ser,.slice s.a1 s.n1 s.c1,.slice s.a2 s.n2 s.c2,.int .i64 x.frm,.int .i64 x.til,.int .i64 x.key.1,.int .u64 x.key.2.1,.int .i64 x.key.2.2,.bool x.ca,.int .i64 x.room,.int .i64 x.uses,.slice s.a3 s.n3 s.c3,.slice s.a4 s.n4 s.c4,.slice s.a5 s.n5 s.c5,.slice s.a6 s.n6 s.c6,.slice s.a7 s.n7 s.c7,.int .i64 x.need,.int .i64 x.nomap,.int .i64 x.noany,.slice s.a8 s.n8 s.c8,.slice s.a9 s.n9 s.c9] (0,0) _ L0.out Tryz.underlying46 rfl infoSize9 ?_) | fail)
 refine HOK.out.mono ?_
 rintro e w1 ⟨v1,rfl,hv1,hb1⟩
 have B1:Hid (Below w.heap.size w w1):=B0.out.trans (hb1.mono B0.out.size)
 have L1:Hid (w1.heap[w.heap.size]? = some (.cells #[.int .i64 x.ser,.slice s.a1 s.n1 s.c1,.slice s.a2 s.n2 s.c2,.int .i64 x.frm,.int .i64 x.til,.int .i64 x.key.1,.int .u64 x.key.2.1,.int .i64 x.key.2.2,.bool x.ca,.int .i64 x.room,.int .i64 x.uses,.slice s.a3 s.n3 s.c3,.slice s.a4 s.n4 s.c4,.slice s.a5 s.n5 s.c5,.slice s.a6 s.n6 s.c6,.slice s.a7 s.n7 s.c7,.int .i64 x.need,.int .i64 x.nomap,.int .i64 x.noany,.slice s.a8 s.n8 s.c8,.slice s.a9 s.n9 s.c9] 46 (0,0))):=(hb1.block _ (Array.getElem?_eq_some_iff.1 L0.out).1).trans L0.out
 clear hb1 B0 L0 HOK
 rcases hf with ⟨hP,rfl,hE⟩ | ⟨hP,rfl,rfl⟩
 ·obtain rfl:v1=true:=sayB_t hv1 hP
  have HB2:Hid (_):=HBD.out hP hE
  clear hv1 hP hE HBD
  go_wp2_with (first | (refine wpList_load_row rfl 46 _ rfl w.heap.size rfl 46 #[.int .i64 x.ser,.slice s.a1 s.n1 s.c1,.slice s.a2 s.n2 s.c2,.int .i64 x.frm,.int .i64 x.til,.int .i64 x.key.1,.int .u64 x.key.2.1,.int .i64 x.key.2.2,.bool x.ca,.int .i64 x.room,.int .i64 x.uses,.slice s.a3 s.n3 s.c3,.slice s.a4 s.n4 s.c4,.slice s.a5 s.n5 s.c5,.slice s.a6 s.n6 s.c6,.slice s.a7 s.n7 s.c7,.int .i64 x.need,.int .i64 x.nomap,.int .i64 x.noany,.slice s.a8 s.n8 s.c8,.slice s.a9 s.n9 s.c9] (0,0) _ L1.out Tryz.underlying46 rfl infoSize9 ?_) | fail)
  refine (HB2.out w1 B1.out).mono ?_
  rintro e w3 ⟨a3,c3,rfl,ho,hb3⟩
  have HR:Hid (Row w3 a3 l.length l):=ho.toRow
  have B3:Hid (Below w.heap.size w w3):=B1.out.trans (hb3.mono B1.out.size)
  clear ho hb3 B1 L1 HB2
  go_wp2_with fail
  refine (specHash_any a3 l.length c3 l w3 HR.out (by omega)).mono ?_
  rintro e w4 ⟨rfl,hw4⟩
  have hw5:=hw4.symm
  subst hw5
  clear hw4
  go_wp2
  go_ret
  exact ⟨rfl,B3.out⟩
 ·obtain rfl:v1=false:=sayB_f hv1 hP
  clear hv1 hP
  go_wp2
  go_ret
  exact ⟨rfl,B1.out⟩
end Go.Proofs.YtmdfbnlgfhjnoaaGreatDoor
