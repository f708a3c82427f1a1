import Derived.Test.YtmdfbnlgfhjnoaaGreatDoorFD32
import Derived.Test.YtmdfbnlgfhjnoaaGreatDoorFD33
import Derived.Test.YtmdfbnlgfhjnoaaGreatDoorFD47
set_option maxRecDepth 10000
set_option maxHeartbeats 8000000
set_option linter.unusedVariables false
namespace Go.Proofs.YtmdfbnlgfhjnoaaGreatDoor
open Go.RowKit
theorem infoSize9:(Tryz.prog.info? 46).map (·.size)=some 21:=by kernel_rfl
theorem infoSizeL9:(Tryz.prog.info? 34).map (·.size)=some 21:=by kernel_rfl
theorem opw_not {P:Program}{Q:Exit→Act→World→Prop}{o:Oper}{a:Act}{w:World}{K:Act→World→Prop}(t x:Nat)(ho:o.op=.unOp .not t (.tmp x))(p:Bool)(hx:aT a x=.bool p)(h:K (a.put o.dst (.bool (!p))) w):o.wp P a w K Q:=by
 refine opw_value (.bool (!p)) ?_ h
 have hx':a.eval (.tmp x)=.bool p:=hx
 unfold execOp
 simp only [ho,hx']
 simp [go_sem]
open Go.RowKit Go.Sort
def ceIt (k:Nat)(x:CE):It:=if k=1 then boxI 1 (ceK x) else boxI 2 [boxI 1 (ceK x),bytI x.sig]
def CbR (k:Nat)(x:CE)(bo:Bool)(l:List Int):Prop:=(ceP x∧bo=true∧enc 12 (ceIt k x)=some l)∨(¬ ceP x∧bo=false∧l = [])
theorem cbR_any (k:Nat)(x:CE):∃ bo l,CbR k x bo l∧l.length≤20000:=by
 by_cases h:ceP x
 ·by_cases hk:k=1
  ·subst hk
   have:=ceBody_enc h
   exact ⟨true,ceBody x,.inl ⟨h,rfl,this.1⟩,by omega⟩
  ·have:=ceBytes_enc h
   refine ⟨true,ceBytes x,.inl ⟨h,rfl,?_⟩,by omega⟩
   unfold ceIt
   rw [if_neg hk]
   exact this.1
 ·exact ⟨false,[],.inr ⟨h,rfl,rfl⟩,by decide⟩
theorem sayB_t {p:Prop}{v:Bool}(h:Hid (v=true↔p))(hp:p):v=true:=h.out.2 hp
theorem sayB_f {p:Prop}{v:Bool}(h:Hid (v=true↔p))(hp:¬ p):v=false:=by
 cases v with
 | false=>rfl
 | true=>exact absurd (h.out.1 rfl) hp
theorem own_nilM (B:Nat)(w:World):Own B w none 0 0 []:=⟨World.ownsRow_nil w B 5 1,by simp⟩
theorem itemBytes_R {L R d:Nat}{x:It}{ab:Option Addr}{nb cb:Nat}{ak:Option Addr}{nk ck:Nat}{l:List Int}{w:World}(h:ItZ L R d w x ab nb cb ak nk ck)(hl:enc 12 x=some l) :
  Calls Tryz.prog 45 #[.agg #[.int .i64 x.cls,.int .i64 x.tag,.bool x.cons,.slice ab nb cb,.slice ak nk ck]] w fun e w'=>∃ a' c',e=.returned (.tuple #[.slice a' l.length c',.bool true])∧Own w.heap.size w' a' l.length c' l∧Below w.heap.size w w':=by
 refine Calls.mono (implItemBytes_any d x ab nb cb ak nk ck w h.it.row.row h.it.nil h.it.max h.it.kids.kids) ?_
 rintro e w1 ⟨hans,hb1⟩
 rcases hans with ⟨a1,n1,c1,bs,rfl,h1,ho⟩ | ⟨rfl,h1⟩
 ·have e1:bs=l:=by have:=h1.out; rw [hl] at this; injection this with this; exact this.symm
  subst e1
  have e2:bs.length=n1:=ho.toRow.len
  subst e2
  exact ⟨a1,c1,rfl,ho,hb1⟩
 ·have:=h1.out
  rw [hl] at this
  cases this
theorem l2Bytes_R {L R d:Nat}{x:It}{ab:Option Addr}{nb cb:Nat}{ak:Option Addr}{nk ck:Nat}{l:List Int}{w:World}(h:ItZ L R d w x ab nb cb ak nk ck)(hl:enc 12 x=some l) :
  Calls Tryz.prog 36 #[.agg #[.int .i64 x.cls,.int .i64 x.tag,.bool x.cons,.slice ab nb cb,.slice ak nk ck]] w fun e w'=>∃ a' c',e=.returned (.slice a' l.length c')∧Own w.heap.size w' a' l.length c' l∧Below w.heap.size w w' :=
 specBytes_all d 12 x l ab nb cb ak nk ck w hl h.it.row.row h.it.nil h.it.kids.kids
theorem implCertBody_any (s:CES)(x:CE)(bo:Bool)(l:List Int)(w:World)(hm:MaxW w)(h:CER w s x)(hz:CEZ x)(ht:CET s)(hu:U64 x.key.2.1)(hf:CbR 1 x bo l) :
  Calls Tryz.prog 11 #[CEv s x] w fun e w'=>∃ a' c',e=.returned (.tuple #[.slice a' l.length c',.bool bo])∧Own w.heap.size w' a' l.length c' l∧Below w.heap.size w w':=by
 show Calls Tryz.prog 11 #[.agg #[.int .i64 x.ser,.slice s.a1 s.n1 s.c1,.slice s.a2 s.n2 s.c2,.int .i64 x.frm,.int .i64 x.til,.int .i64 x.key.1,.int .u64 x.key.2.1,.int .i64 x.key.2.2,.bool x.ca,.int .i64 x.room,.int .i64 x.uses,.slice s.a3 s.n3 s.c3,.slice s.a4 s.n4 s.c4,.slice s.a5 s.n5 s.c5,.slice s.a6 s.n6 s.c6,.slice s.a7 s.n7 s.c7,.int .i64 x.need,.int .i64 x.nomap,.int .i64 x.noany,.slice s.a8 s.n8 s.c8,.slice s.a9 s.n9 s.c9]] w _
 obtain ⟨w0,hw0⟩:∃ w0,w0=w.alloc (.cells #[.int .i64 x.ser,.slice s.a1 s.n1 s.c1,.slice s.a2 s.n2 s.c2,.int .i64 x.frm,.int .i64 x.til,.int .i64 x.key.1,.int .u64 x.key.2.1,.int .i64 x.key.2.2,.bool x.ca,.int .i64 x.room,.int .i64 x.uses,.slice s.a3 s.n3 s.c3,.slice s.a4 s.n4 s.c4,.slice s.a5 s.n5 s.c5,.slice s.a6 s.n6 s.c6,.slice s.a7 s.n7 s.c7,.int .i64 x.need,.int .i64 x.nomap,.int .i64 x.noany,.slice s.a8 s.n8 s.c8,.slice s.a9 s.n9 s.c9] 46):=⟨_,rfl⟩
 have B0:Hid (Below w.heap.size w w0):=by show Below _ _ _; rw [hw0]; exact (Below.refl _ _).alloc (Nat.le_refl _) _
 have L0:Hid (w0.heap[w.heap.size]? = some (.cells #[.int .i64 x.ser,.slice s.a1 s.n1 s.c1,.slice s.a2 s.n2 s.c2,.int .i64 x.frm,.int .i64 x.til,.int .i64 x.key.1,.int .u64 x.key.2.1,.int .i64 x.key.2.2,.bool x.ca,.int .i64 x.room,.int .i64 x.uses,.slice s.a3 s.n3 s.c3,.slice s.a4 s.n4 s.c4,.slice s.a5 s.n5 s.c5,.slice s.a6 s.n6 s.c6,.slice s.a7 s.n7 s.c7,.int .i64 x.need,.int .i64 x.nomap,.int .i64 x.noany,.slice s.a8 s.n8 s.c8,.slice s.a9 s.n9 s.c9] 46 (0,0))):=by show _=_; rw [hw0]; exact heap_alloc_new w _
 have HOK:Hid (Calls Tryz.prog 44 #[.agg #[.int .i64 x.ser,.slice s.a1 s.n1 s.c1,.slice s.a2 s.n2 s.c2,.int .i64 x.frm,.int .i64 x.til,.int .i64 x.key.1,.int .u64 x.key.2.1,.int .i64 x.key.2.2,.bool x.ca,.int .i64 x.room,.int .i64 x.uses,.slice s.a3 s.n3 s.c3,.slice s.a4 s.n4 s.c4,.slice s.a5 s.n5 s.c5,.slice s.a6 s.n6 s.c6,.slice s.a7 s.n7 s.c7,.int .i64 x.need,.int .i64 x.nomap,.int .i64 x.noany,.slice s.a8 s.n8 s.c8,.slice s.a9 s.n9 s.c9]] w0 (Says (ceP x) w0)):=implCertOk_any s x w0 (hm.kept B0.out) (h.kept B0.out) hz ht hu
 have HBD:Hid (ceP x→∀ W,Below w.heap.size w W→Calls Tryz.prog 46 #[.agg #[.int .i64 x.ser,.slice s.a1 s.n1 s.c1,.slice s.a2 s.n2 s.c2,.int .i64 x.frm,.int .i64 x.til,.int .i64 x.key.1,.int .u64 x.key.2.1,.int .i64 x.key.2.2,.bool x.ca,.int .i64 x.room,.int .i64 x.uses,.slice s.a3 s.n3 s.c3,.slice s.a4 s.n4 s.c4,.slice s.a5 s.n5 s.c5,.slice s.a6 s.n6 s.c6,.slice s.a7 s.n7 s.c7,.int .i64 x.need,.int .i64 x.nomap,.int .i64 x.noany,.slice s.a8 s.n8 s.c8,.slice s.a9 s.n9 s.c9]] W fun e w'=>ItR w.heap.size W.heap.size 7 (boxI 1 (ceK x)) e w'∧Below W.heap.size W w'):=fun hp W hW=>bodyItem_R s x w.heap.size W hW.size (h.kept hW) (ceW_of h hu hp) (h.r8.exL.kept h.r8 hW)
 clear h hz ht hu hm
 go_enter Tryz.func11,Tryz.ntmps11
 go_upto_region 1 with fail
 rw [← hw0]
 clear hw0
 go_wp2_with (first | (refine wpList_load_row rfl 46 _ rfl w.heap.size rfl 46 #[.int .i64 x.ser,.slice s.a1 s.n1 s.c1,.slice s.a2 s.n2 s.c2,.int .i64 x.frm,.int .i64 x.til,.int .i64 x.key.1,.int .u64 x.key.2.1,.int .i64 x.key.2.2,.bool x.ca,.int .i64 x.room,.int .i64 x.uses,.slice s.a3 s.n3 s.c3,.slice s.a4 s.n4 s.c4,.slice s.a5 s.n5 s.c5,.slice s.a6 s.n6 s.c6,.slice s.a7 s.n7 s.c7,.int .i64 x.need,.int .i64 x.nomap,.int .i64 x.noany,.slice s.a8 s.n8 s.c8,.slice s.a9 s.n9 s.c9] (0,0) _ L0.out Tryz.underlying46 rfl infoSize9 ?_) | fail)
 refine HOK.out.mono ?_
 rintro e w1 ⟨v1,rfl,hv1,hb1⟩
 have B1:Hid (Below w.heap.size w w1):=B0.out.trans (hb1.mono B0.out.size)
 have L1:Hid (w1.heap[w.heap.size]? = some (.cells #[.int .i64 x.ser,.slice s.a1 s.n1 s.c1,.slice s.a2 s.n2 s.c2,.int .i64 x.frm,.int .i64 x.til,.int .i64 x.key.1,.int .u64 x.key.2.1,.int .i64 x.key.2.2,.bool x.ca,.int .i64 x.room,.int .i64 x.uses,.slice s.a3 s.n3 s.c3,.slice s.a4 s.n4 s.c4,.slice s.a5 s.n5 s.c5,.slice s.a6 s.n6 s.c6,.slice s.a7 s.n7 s.c7,.int .i64 x.need,.int .i64 x.nomap,.int .i64 x.noany,.slice s.a8 s.n8 s.c8,.slice s.a9 s.n9 s.c9] 46 (0,0))):=(hb1.block _ (Array.getElem?_eq_some_iff.1 L0.out).1).trans L0.out
 clear hb1 B0 L0 HOK
 rcases hf with ⟨hP,rfl,hE⟩ | ⟨hP,rfl,rfl⟩
 ·obtain rfl:v1=true:=sayB_t hv1 hP
  have HE:Hid (enc 12 (boxI 1 (ceK x))=some l):=hE
  have HB2:Hid (_):=HBD.out hP
  clear hv1 hP hE HBD
  obtain ⟨X,hX⟩:∃ X,X=boxI 1 (ceK x):=⟨_,rfl⟩
  rw [← hX] at HE HB2
  clear hX
  go_wp2_with (first | (refine wpList_load_row rfl 46 _ rfl w.heap.size rfl 46 #[.int .i64 x.ser,.slice s.a1 s.n1 s.c1,.slice s.a2 s.n2 s.c2,.int .i64 x.frm,.int .i64 x.til,.int .i64 x.key.1,.int .u64 x.key.2.1,.int .i64 x.key.2.2,.bool x.ca,.int .i64 x.room,.int .i64 x.uses,.slice s.a3 s.n3 s.c3,.slice s.a4 s.n4 s.c4,.slice s.a5 s.n5 s.c5,.slice s.a6 s.n6 s.c6,.slice s.a7 s.n7 s.c7,.int .i64 x.need,.int .i64 x.nomap,.int .i64 x.noany,.slice s.a8 s.n8 s.c8,.slice s.a9 s.n9 s.c9] (0,0) _ L1.out Tryz.underlying46 rfl infoSize9 ?_) | fail)
  refine (HB2.out w1 B1.out).mono ?_
  rintro e w2 ⟨⟨ab,nb,cb,ak,nk,ck,rfl,hzI⟩,hb2⟩
  have B2:Hid (Below w.heap.size w w2):=B1.out.trans (hb2.mono B1.out.size)
  have HZI:Hid (ItZ w.heap.size w1.heap.size 7 w2 X ab nb cb ak nk ck):=hzI
  clear hb2 hzI B1 L1 HB2
  go_wp2_with fail
  refine (itemBytes_R HZI.out HE.out).mono ?_
  rintro e w3 ⟨a3,c3,rfl,ho,hb3⟩
  have HO:Hid (Own w.heap.size w3 a3 l.length c3 l):=ho.mono B2.out.size
  have B3:Hid (Below w.heap.size w w3):=B2.out.trans (hb3.mono B2.out.size)
  clear ho hb3 B2 HZI
  go_wp2
  go_ret2
  exact ⟨a3,c3,rfl,HO.out,B3.out⟩
 ·obtain rfl:v1=false:=sayB_f hv1 hP
  clear hv1 hP
  go_wp2
  go_ret2
  exact ⟨none,0,rfl,own_nilM _ _,B1.out⟩
open Go.RowKit Go.Sort
def csV (bo:Bool)(sc yy hh:Int)(l sg:List Int):Bool:=bo && decide (anyP sc yy hh l sg)
theorem implCertSigned_any (s:CES)(x:CE)(sc yy hh:Int)(bo:Bool)(l:List Int)(w:World)(hm:MaxW w)(h:CER w s x)(hz:CEZ x)(ht:CET s)(hu:U64 x.key.2.1)(hy:U64 yy)(hcg:s.n9≤s.c9)(hf:CbR 1 x bo l)(hl:l.length≤20000) :
  Calls Tryz.prog 23 #[CEv s x,kpv sc yy hh] w fun e w'=>e=.returned (.bool (csV bo sc yy hh l x.sig))∧Below w.heap.size w w':=by
 show Calls Tryz.prog 23 #[.agg #[.int .i64 x.ser,.slice s.a1 s.n1 s.c1,.slice s.a2 s.n2 s.c2,.int .i64 x.frm,.int .i64 x.til,.int .i64 x.key.1,.int .u64 x.key.2.1,.int .i64 x.key.2.2,.bool x.ca,.int .i64 x.room,.int .i64 x.uses,.slice s.a3 s.n3 s.c3,.slice s.a4 s.n4 s.c4,.slice s.a5 s.n5 s.c5,.slice s.a6 s.n6 s.c6,.slice s.a7 s.n7 s.c7,.int .i64 x.need,.int .i64 x.nomap,.int .i64 x.noany,.slice s.a8 s.n8 s.c8,.slice s.a9 s.n9 s.c9],.agg #[.int .i64 sc,.int .u64 yy,.int .i64 hh]] w _
 obtain ⟨w0,hw0⟩:∃ w0,w0=(w.alloc (.cells #[.int .i64 x.ser,.slice s.a1 s.n1 s.c1,.slice s.a2 s.n2 s.c2,.int .i64 x.frm,.int .i64 x.til,.int .i64 x.key.1,.int .u64 x.key.2.1,.int .i64 x.key.2.2,.bool x.ca,.int .i64 x.room,.int .i64 x.uses,.slice s.a3 s.n3 s.c3,.slice s.a4 s.n4 s.c4,.slice s.a5 s.n5 s.c5,.slice s.a6 s.n6 s.c6,.slice s.a7 s.n7 s.c7,.int .i64 x.need,.int .i64 x.nomap,.int .i64 x.noany,.slice s.a8 s.n8 s.c8,.slice s.a9 s.n9 s.c9] 46)).alloc (.cells #[.int .i64 sc,.int .u64 yy,.int .i64 hh] 41):=⟨_,rfl⟩
 have B0:Hid (Below w.heap.size w w0):=by show Below _ _ _; rw [hw0]; exact ((Below.refl _ _).alloc (Nat.le_refl _) _).alloc (by simp) _
 have hbx:=two_blocks w (.cells #[.int .i64 x.ser,.slice s.a1 s.n1 s.c1,.slice s.a2 s.n2 s.c2,.int .i64 x.frm,.int .i64 x.til,.int .i64 x.key.1,.int .u64 x.key.2.1,.int .i64 x.key.2.2,.bool x.ca,.int .i64 x.room,.int .i64 x.uses,.slice s.a3 s.n3 s.c3,.slice s.a4 s.n4 s.c4,.slice s.a5 s.n5 s.c5,.slice s.a6 s.n6 s.c6,.slice s.a7 s.n7 s.c7,.int .i64 x.need,.int .i64 x.nomap,.int .i64 x.noany,.slice s.a8 s.n8 s.c8,.slice s.a9 s.n9 s.c9] 46) (.cells #[.int .i64 sc,.int .u64 yy,.int .i64 hh] 41)
 rw [← hw0] at hbx
 have L0:Hid (w0.heap[w.heap.size]? = some (.cells #[.int .i64 x.ser,.slice s.a1 s.n1 s.c1,.slice s.a2 s.n2 s.c2,.int .i64 x.frm,.int .i64 x.til,.int .i64 x.key.1,.int .u64 x.key.2.1,.int .i64 x.key.2.2,.bool x.ca,.int .i64 x.room,.int .i64 x.uses,.slice s.a3 s.n3 s.c3,.slice s.a4 s.n4 s.c4,.slice s.a5 s.n5 s.c5,.slice s.a6 s.n6 s.c6,.slice s.a7 s.n7 s.c7,.int .i64 x.need,.int .i64 x.nomap,.int .i64 x.noany,.slice s.a8 s.n8 s.c8,.slice s.a9 s.n9 s.c9] 46 (0,0))):=hbx.1
 have P0:Hid (w0.heap[w.heap.size+1]? = some (.cells #[.int .i64 sc,.int .u64 yy,.int .i64 hh] 41 (0,0))):=hbx.2
 clear hbx
 have HCB:Hid (Calls Tryz.prog 11 #[.agg #[.int .i64 x.ser,.slice s.a1 s.n1 s.c1,.slice s.a2 s.n2 s.c2,.int .i64 x.frm,.int .i64 x.til,.int .i64 x.key.1,.int .u64 x.key.2.1,.int .i64 x.key.2.2,.bool x.ca,.int .i64 x.room,.int .i64 x.uses,.slice s.a3 s.n3 s.c3,.slice s.a4 s.n4 s.c4,.slice s.a5 s.n5 s.c5,.slice s.a6 s.n6 s.c6,.slice s.a7 s.n7 s.c7,.int .i64 x.need,.int .i64 x.nomap,.int .i64 x.noany,.slice s.a8 s.n8 s.c8,.slice s.a9 s.n9 s.c9]] w0 fun e w'=>∃ a' c',e=.returned (.tuple #[.slice a' l.length c',.bool bo])∧Own w0.heap.size w' a' l.length c' l∧Below w0.heap.size w0 w'):=implCertBody_any s x bo l w0 (hm.kept B0.out) (h.kept B0.out) hz ht hu hf
 have HVF:Hid (∀ W a4 c4,Below w.heap.size w W→Own w.heap.size W a4 l.length c4 l→Calls Tryz.prog 64 #[.agg #[.int .i64 sc,.int .u64 yy,.int .i64 hh],.slice a4 l.length c4,.slice s.a9 s.n9 s.c9] W fun e w'=>e=.returned (.bool (decide (anyP sc yy hh l x.sig)))∧Below W.heap.size W w'):=fun W a4 c4 hW ho4=>implVerifyAny_any sc yy hh a4 l.length c4 l s.a9 s.n9 s.c9 x.sig W hy ho4.toRow (by omega) ho4.nil (h.r9.kept hW) (by have:=(h.zn.1 hz).2.2.2.2.2.2.2.2; omega) hcg
 clear h hz ht hu hm hf hcg
 go_enter Tryz.func23,Tryz.ntmps23
 go_upto_region 1 with fail
 rw [← hw0]
 clear hw0
 go_wp2_with (first | (refine wpList_load_row rfl 46 _ rfl w.heap.size rfl 46 #[.int .i64 x.ser,.slice s.a1 s.n1 s.c1,.slice s.a2 s.n2 s.c2,.int .i64 x.frm,.int .i64 x.til,.int .i64 x.key.1,.int .u64 x.key.2.1,.int .i64 x.key.2.2,.bool x.ca,.int .i64 x.room,.int .i64 x.uses,.slice s.a3 s.n3 s.c3,.slice s.a4 s.n4 s.c4,.slice s.a5 s.n5 s.c5,.slice s.a6 s.n6 s.c6,.slice s.a7 s.n7 s.c7,.int .i64 x.need,.int .i64 x.nomap,.int .i64 x.noany,.slice s.a8 s.n8 s.c8,.slice s.a9 s.n9 s.c9] (0,0) _ L0.out Tryz.underlying46 rfl infoSize9 ?_) | fail)
 refine HCB.out.mono ?_
 rintro e w1 ⟨a1,c1,rfl,ho,hb1⟩
 have B1:Hid (Below w.heap.size w w1):=B0.out.trans (hb1.mono B0.out.size)
 have HO:Hid (Own w.heap.size w1 a1 l.length c1 l):=ho.mono B0.out.size
 have L1:=below_kept L0.out hb1
 have P1:=below_kept P0.out hb1
 have x20:w1.cell? ⟨w.heap.size,20,none⟩=some (.slice s.a9 s.n9 s.c9):=qk L1 rfl
 have y0:w1.cell? ⟨w.heap.size+1,0,none⟩=some (.int .i64 sc):=qk P1 rfl
 have y1:w1.cell? ⟨w.heap.size+1,1,none⟩=some (.int .u64 yy):=qk P1 rfl
 have y2:w1.cell? ⟨w.heap.size+1,2,none⟩=some (.int .i64 hh):=qk P1 rfl
 have hlt1:w.heap.size+1<w1.heap.size:=(Array.getElem?_eq_some_iff.1 P1).1
 have hlt2:w.heap.size<w1.heap.size:=by omega
 clear ho hb1 B0 L0 P0 HCB L1 P1
 cases bo with
 | true =>
  go_wp2_with fail
  refine (HVF.out w1 a1 c1 B1.out HO.out).mono ?_
  rintro e w4 ⟨rfl,hb4⟩
  have B4:Hid (Below w.heap.size w w4):=B1.out.trans (hb4.mono B1.out.size)
  clear hb4 B1
  go_wp2
  go_ret
  exact ⟨rfl,B4.out⟩
 | false =>
  go_wp2
  go_ret
  exact ⟨rfl,B1.out⟩
def cgF (s:CES)(x:CE)(sc yy hh:Int)(l:List Int)(vb:Bool)(R G B:Nat):RSpec where
 m:=12
 n:=14
 slots:=[5,6,7,8,9,10,11,12,13,14,15,4,100012,100013]
 kills:=[[],[],[],[],[],[],[],[],[],[],[],[],[],[]]
 pres:=[[],[],[],[],[],[],[],[],[],[],[],[],[],[]]
 fact:=fun k v w=>match k with
  | 0=>v=.agg #[.int .i64 x.ser,.slice s.a1 s.n1 s.c1,.slice s.a2 s.n2 s.c2,.int .i64 x.frm,.int .i64 x.til,.int .i64 x.key.1,.int .u64 x.key.2.1,.int .i64 x.key.2.2,.bool x.ca,.int .i64 x.room,.int .i64 x.uses,.slice s.a3 s.n3 s.c3,.slice s.a4 s.n4 s.c4,.slice s.a5 s.n5 s.c5,.slice s.a6 s.n6 s.c6,.slice s.a7 s.n7 s.c7,.int .i64 x.need,.int .i64 x.nomap,.int .i64 x.noany,.slice s.a8 s.n8 s.c8,.slice s.a9 s.n9 s.c9]
  | 1=>v=.bool false
  | 2=>v=.bool false
  | 3=>v=undef
  | 4=>v=undef
  | 5=>v=undef
  | 6=>v=undef
  | 7=>v=undef
  | 8=>v=undef
  | 9=>v=undef
  | 10=>v=.bool false
  | 11=>v=.bool false
  | 12=>w.heap[G]? = some (.cells #[.int .i64 x.ser,.slice s.a1 s.n1 s.c1,.slice s.a2 s.n2 s.c2,.int .i64 x.frm,.int .i64 x.til,.int .i64 x.key.1,.int .u64 x.key.2.1,.int .i64 x.key.2.2,.bool x.ca,.int .i64 x.room,.int .i64 x.uses,.slice s.a3 s.n3 s.c3,.slice s.a4 s.n4 s.c4,.slice s.a5 s.n5 s.c5,.slice s.a6 s.n6 s.c6,.slice s.a7 s.n7 s.c7,.int .i64 x.need,.int .i64 x.nomap,.int .i64 x.noany,.slice s.a8 s.n8 s.c8,.slice s.a9 s.n9 s.c9] 46 (0,0))
  | _=>w.heap[(G+1)]? = some (.cells #[.int .i64 sc,.int .u64 yy,.int .i64 hh] 41 (0,0))
theorem cgF_stb (s:CES)(x:CE)(sc yy hh:Int)(l:List Int)(vb:Bool)(R G B:Nat)(k:Nat)(hk:k<14):StB ((cgF s x sc yy hh l vb R G (B)).fact k):=by
 match k,hk with
 | 0,_=>exact fun _ _ _ h _=>h
 | 1,_=>exact fun _ _ _ h _=>h
 | 2,_=>exact fun _ _ _ h _=>h
 | 3,_=>exact fun _ _ _ h _=>h
 | 4,_=>exact fun _ _ _ h _=>h
 | 5,_=>exact fun _ _ _ h _=>h
 | 6,_=>exact fun _ _ _ h _=>h
 | 7,_=>exact fun _ _ _ h _=>h
 | 8,_=>exact fun _ _ _ h _=>h
 | 9,_=>exact fun _ _ _ h _=>h
 | 10,_=>exact fun _ _ _ h _=>h
 | 11,_=>exact fun _ _ _ h _=>h
 | 12,_=>exact fun _ _ _ q_0 hb=>below_kept q_0 hb
 | 13,_=>exact fun _ _ _ q_0 hb=>below_kept q_0 hb
 | k+14,hk=>omega
def cgT (s:CES)(x:CE)(sc yy hh:Int)(l:List Int)(vb:Bool)(R G B:Nat):RSpec where
 m:=12
 n:=14
 slots:=[5,6,7,8,9,10,11,12,13,14,15,4,100012,100013]
 kills:=[[],[],[],[],[],[],[],[],[],[],[],[],[],[]]
 pres:=[[],[],[],[],[],[],[],[],[],[],[],[],[],[]]
 fact:=fun k v w=>match k with
  | 0=>v=.agg #[.int .i64 x.ser,.slice s.a1 s.n1 s.c1,.slice s.a2 s.n2 s.c2,.int .i64 x.frm,.int .i64 x.til,.int .i64 x.key.1,.int .u64 x.key.2.1,.int .i64 x.key.2.2,.bool x.ca,.int .i64 x.room,.int .i64 x.uses,.slice s.a3 s.n3 s.c3,.slice s.a4 s.n4 s.c4,.slice s.a5 s.n5 s.c5,.slice s.a6 s.n6 s.c6,.slice s.a7 s.n7 s.c7,.int .i64 x.need,.int .i64 x.nomap,.int .i64 x.noany,.slice s.a8 s.n8 s.c8,.slice s.a9 s.n9 s.c9]
  | 1=>v=.bool true
  | 2=>v=.bool true
  | 3=>v=.agg #[.int .i64 sc,.int .u64 yy,.int .i64 hh]
  | 4=>v=.agg #[.int .i64 x.ser,.slice s.a1 s.n1 s.c1,.slice s.a2 s.n2 s.c2,.int .i64 x.frm,.int .i64 x.til,.int .i64 x.key.1,.int .u64 x.key.2.1,.int .i64 x.key.2.2,.bool x.ca,.int .i64 x.room,.int .i64 x.uses,.slice s.a3 s.n3 s.c3,.slice s.a4 s.n4 s.c4,.slice s.a5 s.n5 s.c5,.slice s.a6 s.n6 s.c6,.slice s.a7 s.n7 s.c7,.int .i64 x.need,.int .i64 x.nomap,.int .i64 x.noany,.slice s.a8 s.n8 s.c8,.slice s.a9 s.n9 s.c9]
  | 5=>∃ a1 n1 c1 k1 m1 e1,v=.agg #[.int .i64 (boxI 1 (ceK x)).cls,.int .i64 (boxI 1 (ceK x)).tag,.bool (boxI 1 (ceK x)).cons,.slice a1 n1 c1,.slice k1 m1 e1]∧ItZ 0 R 7 w (boxI 1 (ceK x)) a1 n1 c1 k1 m1 e1
  | 6=>∃ a4 c4,v=.slice a4 l.length c4∧Own B w a4 l.length c4 l
  | 7=>v=.pointer (some ⟨G,20,none⟩)
  | 8=>v=.slice s.a9 s.n9 s.c9
  | 9=>v=.bool vb
  | 10=>v=.bool vb
  | 11=>v=.bool vb
  | 12=>w.heap[G]? = some (.cells #[.int .i64 x.ser,.slice s.a1 s.n1 s.c1,.slice s.a2 s.n2 s.c2,.int .i64 x.frm,.int .i64 x.til,.int .i64 x.key.1,.int .u64 x.key.2.1,.int .i64 x.key.2.2,.bool x.ca,.int .i64 x.room,.int .i64 x.uses,.slice s.a3 s.n3 s.c3,.slice s.a4 s.n4 s.c4,.slice s.a5 s.n5 s.c5,.slice s.a6 s.n6 s.c6,.slice s.a7 s.n7 s.c7,.int .i64 x.need,.int .i64 x.nomap,.int .i64 x.noany,.slice s.a8 s.n8 s.c8,.slice s.a9 s.n9 s.c9] 46 (0,0))
  | _=>w.heap[(G+1)]? = some (.cells #[.int .i64 sc,.int .u64 yy,.int .i64 hh] 41 (0,0))
theorem cgT_stb (s:CES)(x:CE)(sc yy hh:Int)(l:List Int)(vb:Bool)(R G B:Nat)(k:Nat)(hk:k<14):StB ((cgT s x sc yy hh l vb R G (B)).fact k):=by
 match k,hk with
 | 0,_=>exact fun _ _ _ h _=>h
 | 1,_=>exact fun _ _ _ h _=>h
 | 2,_=>exact fun _ _ _ h _=>h
 | 3,_=>exact fun _ _ _ h _=>h
 | 4,_=>exact fun _ _ _ h _=>h
 | 5,_=>exact fun _ _ _ ⟨a1,n1,c1,k1,m1,e1,hv,q_0⟩ hb=>⟨a1,n1,c1,k1,m1,e1,hv,q_0.kept hb⟩
 | 6,_=>exact fun _ _ _ ⟨a4,c4,hv,q_0⟩ hb=>⟨a4,c4,hv,q_0.kept hb⟩
 | 7,_=>exact fun _ _ _ h _=>h
 | 8,_=>exact fun _ _ _ h _=>h
 | 9,_=>exact fun _ _ _ h _=>h
 | 10,_=>exact fun _ _ _ h _=>h
 | 11,_=>exact fun _ _ _ h _=>h
 | 12,_=>exact fun _ _ _ q_0 hb=>below_kept q_0 hb
 | 13,_=>exact fun _ _ _ q_0 hb=>below_kept q_0 hb
 | k+14,hk=>omega
theorem specCertSigned_any (s:CES)(x:CE)(sc yy hh:Int)(bo:Bool)(l:List Int)(w:World)(h:CER w s x)(hz:CEZ x)(ht:CET s)(hu:U64 x.key.2.1)(hy:U64 yy)(hcg:s.n9≤s.c9)(hf:CbR 1 x bo l)(hl:l.length≤20000) :
  Calls Tryz.prog 21 #[CEv s x,kpv sc yy hh] w fun e w'=>e=.returned (.bool (csV bo sc yy hh l x.sig))∧Below w.heap.size w w':=by
 show Calls Tryz.prog 21 #[.agg #[.int .i64 x.ser,.slice s.a1 s.n1 s.c1,.slice s.a2 s.n2 s.c2,.int .i64 x.frm,.int .i64 x.til,.int .i64 x.key.1,.int .u64 x.key.2.1,.int .i64 x.key.2.2,.bool x.ca,.int .i64 x.room,.int .i64 x.uses,.slice s.a3 s.n3 s.c3,.slice s.a4 s.n4 s.c4,.slice s.a5 s.n5 s.c5,.slice s.a6 s.n6 s.c6,.slice s.a7 s.n7 s.c7,.int .i64 x.need,.int .i64 x.nomap,.int .i64 x.noany,.slice s.a8 s.n8 s.c8,.slice s.a9 s.n9 s.c9],.agg #[.int .i64 sc,.int .u64 yy,.int .i64 hh]] w _
 obtain ⟨w0,hw0⟩:∃ w0,w0=(w.alloc (.cells #[.int .i64 x.ser,.slice s.a1 s.n1 s.c1,.slice s.a2 s.n2 s.c2,.int .i64 x.frm,.int .i64 x.til,.int .i64 x.key.1,.int .u64 x.key.2.1,.int .i64 x.key.2.2,.bool x.ca,.int .i64 x.room,.int .i64 x.uses,.slice s.a3 s.n3 s.c3,.slice s.a4 s.n4 s.c4,.slice s.a5 s.n5 s.c5,.slice s.a6 s.n6 s.c6,.slice s.a7 s.n7 s.c7,.int .i64 x.need,.int .i64 x.nomap,.int .i64 x.noany,.slice s.a8 s.n8 s.c8,.slice s.a9 s.n9 s.c9] 46)).alloc (.cells #[.int .i64 sc,.int .u64 yy,.int .i64 hh] 41):=⟨_,rfl⟩
 have B0:Hid (Below w.heap.size w w0):=by show Below _ _ _; rw [hw0]; exact ((Below.refl _ _).alloc (Nat.le_refl _) _).alloc (by simp) _
 have hbx:=two_blocks w (.cells #[.int .i64 x.ser,.slice s.a1 s.n1 s.c1,.slice s.a2 s.n2 s.c2,.int .i64 x.frm,.int .i64 x.til,.int .i64 x.key.1,.int .u64 x.key.2.1,.int .i64 x.key.2.2,.bool x.ca,.int .i64 x.room,.int .i64 x.uses,.slice s.a3 s.n3 s.c3,.slice s.a4 s.n4 s.c4,.slice s.a5 s.n5 s.c5,.slice s.a6 s.n6 s.c6,.slice s.a7 s.n7 s.c7,.int .i64 x.need,.int .i64 x.nomap,.int .i64 x.noany,.slice s.a8 s.n8 s.c8,.slice s.a9 s.n9 s.c9] 46) (.cells #[.int .i64 sc,.int .u64 yy,.int .i64 hh] 41)
 rw [← hw0] at hbx
 have L0:Hid (w0.heap[w.heap.size]? = some (.cells #[.int .i64 x.ser,.slice s.a1 s.n1 s.c1,.slice s.a2 s.n2 s.c2,.int .i64 x.frm,.int .i64 x.til,.int .i64 x.key.1,.int .u64 x.key.2.1,.int .i64 x.key.2.2,.bool x.ca,.int .i64 x.room,.int .i64 x.uses,.slice s.a3 s.n3 s.c3,.slice s.a4 s.n4 s.c4,.slice s.a5 s.n5 s.c5,.slice s.a6 s.n6 s.c6,.slice s.a7 s.n7 s.c7,.int .i64 x.need,.int .i64 x.nomap,.int .i64 x.noany,.slice s.a8 s.n8 s.c8,.slice s.a9 s.n9 s.c9] 46 (0,0))):=hbx.1
 have P0:Hid (w0.heap[w.heap.size+1]? = some (.cells #[.int .i64 sc,.int .u64 yy,.int .i64 hh] 41 (0,0))):=hbx.2
 clear hbx
 have HVF:Hid (∀ W a4 c4,Below w.heap.size w W→Own w.heap.size W a4 l.length c4 l→Calls Tryz.prog 63 #[.agg #[.int .i64 sc,.int .u64 yy,.int .i64 hh],.slice a4 l.length c4,.slice s.a9 s.n9 s.c9] W fun e w'=>e=.returned (.bool (decide (anyP sc yy hh l x.sig)))∧Below W.heap.size W w'):=fun W a4 c4 hW ho4=>specVerifyAny_any sc yy hh a4 l.length c4 l s.a9 s.n9 s.c9 x.sig W hy ho4.toRow (by omega) ho4.nil (h.r9.kept hW) (by have:=(h.zn.1 hz).2.2.2.2.2.2.2.2; omega) hcg
 have hok:∀ W,Below w.heap.size w0 W→Calls Tryz.prog 35 #[.agg #[.int .i64 x.ser,.slice s.a1 s.n1 s.c1,.slice s.a2 s.n2 s.c2,.int .i64 x.frm,.int .i64 x.til,.int .i64 x.key.1,.int .u64 x.key.2.1,.int .i64 x.key.2.2,.bool x.ca,.int .i64 x.room,.int .i64 x.uses,.slice s.a3 s.n3 s.c3,.slice s.a4 s.n4 s.c4,.slice s.a5 s.n5 s.c5,.slice s.a6 s.n6 s.c6,.slice s.a7 s.n7 s.c7,.int .i64 x.need,.int .i64 x.nomap,.int .i64 x.noany,.slice s.a8 s.n8 s.c8,.slice s.a9 s.n9 s.c9]] W (Says (ceP x) W):=fun W hW=>specCertOk_any s x W (h.kept (B0.out.trans hW)) hz ht hu
 have HBB:w.heap.size≤w0.heap.size:=B0.out.size
 have HRR:w0.heap.size≤w0.heap.size:=Nat.le_refl _
 rcases hf with ⟨hP,rfl,hE⟩ | ⟨hP,rfl,rfl⟩
 ·have HOK:Hid (∀ W,Below w.heap.size w0 W→Calls Tryz.prog 35 #[.agg #[.int .i64 x.ser,.slice s.a1 s.n1 s.c1,.slice s.a2 s.n2 s.c2,.int .i64 x.frm,.int .i64 x.til,.int .i64 x.key.1,.int .u64 x.key.2.1,.int .i64 x.key.2.2,.bool x.ca,.int .i64 x.room,.int .i64 x.uses,.slice s.a3 s.n3 s.c3,.slice s.a4 s.n4 s.c4,.slice s.a5 s.n5 s.c5,.slice s.a6 s.n6 s.c6,.slice s.a7 s.n7 s.c7,.int .i64 x.need,.int .i64 x.nomap,.int .i64 x.noany,.slice s.a8 s.n8 s.c8,.slice s.a9 s.n9 s.c9]] W fun e w'=>e=.returned (.bool true)∧Below W.heap.size W w'):=fun W hW=>(hok W hW).mono (fun e w' q=>by
   obtain ⟨v,e1,e2,e3⟩:=q
   obtain rfl:=sayB_t e2 hP
   exact ⟨e1,e3⟩)
  have HE:Hid (enc 12 (boxI 1 (ceK x))=some l):=hE
  have HBD:Hid (∀ W,Below w.heap.size w0 W→Calls Tryz.prog 37 #[.agg #[.int .i64 x.ser,.slice s.a1 s.n1 s.c1,.slice s.a2 s.n2 s.c2,.int .i64 x.frm,.int .i64 x.til,.int .i64 x.key.1,.int .u64 x.key.2.1,.int .i64 x.key.2.2,.bool x.ca,.int .i64 x.room,.int .i64 x.uses,.slice s.a3 s.n3 s.c3,.slice s.a4 s.n4 s.c4,.slice s.a5 s.n5 s.c5,.slice s.a6 s.n6 s.c6,.slice s.a7 s.n7 s.c7,.int .i64 x.need,.int .i64 x.nomap,.int .i64 x.noany,.slice s.a8 s.n8 s.c8,.slice s.a9 s.n9 s.c9]] W fun e w'=>ItR 0 W.heap.size 7 (boxI 1 (ceK x)) e w'∧Below W.heap.size W w'):=fun W hW=>l9Body_R s x W (h.kept (B0.out.trans hW)) (ceS_of h hu hP)
  obtain ⟨vb,hvb⟩:∃ vb,vb=decide (anyP sc yy hh l x.sig):=⟨_,rfl⟩
  have HVG:Hid (∀ W a4 c4,Below w.heap.size w0 W→Own w.heap.size W a4 l.length c4 l→Calls Tryz.prog 63 #[.agg #[.int .i64 sc,.int .u64 yy,.int .i64 hh],.slice a4 l.length c4,.slice s.a9 s.n9 s.c9] W fun e w'=>e=.returned (.bool vb)∧Below W.heap.size W w'):=fun W a4 c4 hW ho4=>by rw [hvb]; exact HVF.out W a4 c4 (B0.out.trans hW) ho4
  have HVV:Hid (Ending.returned (.bool vb)=.returned (.bool (csV true sc yy hh l x.sig))):=by show _=_; rw [hvb]; rfl
  clear h hz ht hu hcg hP hE hok HVF hvb
  go_enter Tryz.func21,Tryz.ntmps21
  go_upto_region 1 with fail
  rw [← hw0]
  clear hw0
  refine wp_region_rk (cgT s x sc yy hh l vb w0.heap.size w.heap.size (w.heap.size)) [4,5,6,7,8,9,10,11,12,13,14,15] (w.heap.size) (fun a0=>a0.tmps.size=16∧aT a0 2=.pointer (some ⟨w.heap.size,0,none⟩)∧aT a0 3=.pointer (some ⟨(w.heap.size+1),0,none⟩)) (by kernel_rfl) rfl (by kernel_rfl) rfl ⟨rfl,rfl,rfl⟩ (cgT_stb s x sc yy hh l vb w0.heap.size w.heap.size (w.heap.size)) ?_ ?_ ?_
  ·intro k hk hk2
   match k,hk,hk2 with
   | 12,_,_=>exact L0.out
   | 13,_,_=>exact P0.out
   | 0,hk,_=>exact absurd hk (by show ¬ (12≤0); omega)
   | 1,hk,_=>exact absurd hk (by show ¬ (12≤1); omega)
   | 2,hk,_=>exact absurd hk (by show ¬ (12≤2); omega)
   | 3,hk,_=>exact absurd hk (by show ¬ (12≤3); omega)
   | 4,hk,_=>exact absurd hk (by show ¬ (12≤4); omega)
   | 5,hk,_=>exact absurd hk (by show ¬ (12≤5); omega)
   | 6,hk,_=>exact absurd hk (by show ¬ (12≤6); omega)
   | 7,hk,_=>exact absurd hk (by show ¬ (12≤7); omega)
   | 8,hk,_=>exact absurd hk (by show ¬ (12≤8); omega)
   | 9,hk,_=>exact absurd hk (by show ¬ (12≤9); omega)
   | 10,hk,_=>exact absurd hk (by show ¬ (12≤10); omega)
   | 11,hk,_=>exact absurd hk (by show ¬ (12≤11); omega)
   | k+14,_,hk2=>exact absurd hk2 (by show ¬ (k+14<14); omega)
  ·rintro a0 ⟨hz,g2,g3⟩
   refine StepsRK.cons ?_ (StepsRK.cons ?_ (StepsRK.cons ?_ (StepsRK.cons ?_ (StepsRK.cons ?_ (StepsRK.cons ?_ (StepsRK.cons ?_ (StepsRK.cons ?_ (StepsRK.cons ?_ (StepsRK.cons ?_ (StepsRK.cons ?_ (StepsRK.cons ?_ (StepsRK.nil))))))))))))
   ·intro lQ b W hI hUN hED KQ hKQ
    refine rk_plain rfl ?_
    have hg:=(hI.vot 12 (od rfl) (od rfl) rfl)
    refine wp_load_row 46 _ rfl (w.heap.size) ((hI.fr.same 2 (by decide)).trans g2) 46 #[.int .i64 x.ser,.slice s.a1 s.n1 s.c1,.slice s.a2 s.n2 s.c2,.int .i64 x.frm,.int .i64 x.til,.int .i64 x.key.1,.int .u64 x.key.2.1,.int .i64 x.key.2.2,.bool x.ca,.int .i64 x.room,.int .i64 x.uses,.slice s.a3 s.n3 s.c3,.slice s.a4 s.n4 s.c4,.slice s.a5 s.n5 s.c5,.slice s.a6 s.n6 s.c6,.slice s.a7 s.n7 s.c7,.int .i64 x.need,.int .i64 x.nomap,.int .i64 x.noany,.slice s.a8 s.n8 s.c8,.slice s.a9 s.n9 s.c9] (0,0) _ hg Tryz.underlying46 rfl (by kernel_rfl) ?_
    exact hKQ.out _ _ (hI.put 0 5 rfl rfl (by rw [hz]; decide) rfl hUN rfl HBB (cgT_stb s x sc yy hh l vb w0.heap.size w.heap.size (w.heap.size)) (Below.refl _ _) rfl)
   ·intro lQ b W hI hUN hED KQ hKQ
    refine rk_plain rfl ?_
    have f0:aT b 5=.agg #[.int .i64 x.ser,.slice s.a1 s.n1 s.c1,.slice s.a2 s.n2 s.c2,.int .i64 x.frm,.int .i64 x.til,.int .i64 x.key.1,.int .u64 x.key.2.1,.int .i64 x.key.2.2,.bool x.ca,.int .i64 x.room,.int .i64 x.uses,.slice s.a3 s.n3 s.c3,.slice s.a4 s.n4 s.c4,.slice s.a5 s.n5 s.c5,.slice s.a6 s.n6 s.c6,.slice s.a7 s.n7 s.c7,.int .i64 x.need,.int .i64 x.nomap,.int .i64 x.noany,.slice s.a8 s.n8 s.c8,.slice s.a9 s.n9 s.c9]:=hI.got 0 (od rfl) (edge hED 0 (by kernel_rfl)) rfl
    refine opw_call 35 #[.tmp 5] _ _ _ rfl Tryz.func35 (by kernel_rfl) rfl #[.agg #[.int .i64 x.ser,.slice s.a1 s.n1 s.c1,.slice s.a2 s.n2 s.c2,.int .i64 x.frm,.int .i64 x.til,.int .i64 x.key.1,.int .u64 x.key.2.1,.int .i64 x.key.2.2,.bool x.ca,.int .i64 x.room,.int .i64 x.uses,.slice s.a3 s.n3 s.c3,.slice s.a4 s.n4 s.c4,.slice s.a5 s.n5 s.c5,.slice s.a6 s.n6 s.c6,.slice s.a7 s.n7 s.c7,.int .i64 x.need,.int .i64 x.nomap,.int .i64 x.noany,.slice s.a8 s.n8 s.c8,.slice s.a9 s.n9 s.c9]] (by simp [ev,f0]) ?_
    refine (HOK.out W hI.bel).mono ?_
    rintro r W2 ⟨rfl,hb⟩
    exact ⟨_,rfl,hKQ.out _ _ (hI.put 1 6 rfl rfl (by rw [hz]; decide) rfl hUN rfl HBB (cgT_stb s x sc yy hh l vb w0.heap.size w.heap.size (w.heap.size)) hb rfl)⟩
   ·intro lQ b W hI hUN hED KQ hKQ
    refine rk_plain rfl ?_
    have f:=hI.got 1 (od rfl) (edge hED 1 (by kernel_rfl)) rfl
    exact opw_move 6 rfl (hKQ.out _ _ (hI.put 2 7 rfl rfl (by rw [hz]; decide) rfl hUN rfl HBB (cgT_stb s x sc yy hh l vb w0.heap.size w.heap.size (w.heap.size)) (Below.refl _ _) f))
   ·intro lQ b W hI hUN hED KQ hKQ
    refine rk_take 2 true 7 rfl rfl (hI.got 2 (od rfl) (edge hED 2 (by kernel_rfl)) rfl) ?_
    have hg:=(hI.vot 13 (od rfl) (od rfl) rfl)
    refine wp_load_row 41 _ rfl ((w.heap.size+1)) ((hI.fr.same 3 (by decide)).trans g3) 41 #[.int .i64 sc,.int .u64 yy,.int .i64 hh] (0,0) _ hg Tryz.underlying41 rfl (by kernel_rfl) ?_
    exact hKQ.out _ _ (hI.put 3 8 rfl rfl (by rw [hz]; decide) rfl hUN rfl HBB (cgT_stb s x sc yy hh l vb w0.heap.size w.heap.size (w.heap.size)) (Below.refl _ _) rfl)
   ·intro lQ b W hI hUN hED KQ hKQ
    refine rk_take 2 true 7 rfl rfl (hI.got 2 (od rfl) (edge hED 2 (by kernel_rfl)) rfl) ?_
    have hg:=(hI.vot 12 (od rfl) (od rfl) rfl)
    refine wp_load_row 46 _ rfl (w.heap.size) ((hI.fr.same 2 (by decide)).trans g2) 46 #[.int .i64 x.ser,.slice s.a1 s.n1 s.c1,.slice s.a2 s.n2 s.c2,.int .i64 x.frm,.int .i64 x.til,.int .i64 x.key.1,.int .u64 x.key.2.1,.int .i64 x.key.2.2,.bool x.ca,.int .i64 x.room,.int .i64 x.uses,.slice s.a3 s.n3 s.c3,.slice s.a4 s.n4 s.c4,.slice s.a5 s.n5 s.c5,.slice s.a6 s.n6 s.c6,.slice s.a7 s.n7 s.c7,.int .i64 x.need,.int .i64 x.nomap,.int .i64 x.noany,.slice s.a8 s.n8 s.c8,.slice s.a9 s.n9 s.c9] (0,0) _ hg Tryz.underlying46 rfl (by kernel_rfl) ?_
    exact hKQ.out _ _ (hI.put 4 9 rfl rfl (by rw [hz]; decide) rfl hUN rfl HBB (cgT_stb s x sc yy hh l vb w0.heap.size w.heap.size (w.heap.size)) (Below.refl _ _) rfl)
   ·intro lQ b W hI hUN hED KQ hKQ
    refine rk_take 2 true 7 rfl rfl (hI.got 2 (od rfl) (edge hED 2 (by kernel_rfl)) rfl) ?_
    have f0:aT b 9=.agg #[.int .i64 x.ser,.slice s.a1 s.n1 s.c1,.slice s.a2 s.n2 s.c2,.int .i64 x.frm,.int .i64 x.til,.int .i64 x.key.1,.int .u64 x.key.2.1,.int .i64 x.key.2.2,.bool x.ca,.int .i64 x.room,.int .i64 x.uses,.slice s.a3 s.n3 s.c3,.slice s.a4 s.n4 s.c4,.slice s.a5 s.n5 s.c5,.slice s.a6 s.n6 s.c6,.slice s.a7 s.n7 s.c7,.int .i64 x.need,.int .i64 x.nomap,.int .i64 x.noany,.slice s.a8 s.n8 s.c8,.slice s.a9 s.n9 s.c9]:=hI.got 4 (od rfl) (edge hED 4 (by kernel_rfl)) rfl
    refine opw_call 37 #[.tmp 9] _ _ _ rfl Tryz.func37 (by kernel_rfl) rfl #[.agg #[.int .i64 x.ser,.slice s.a1 s.n1 s.c1,.slice s.a2 s.n2 s.c2,.int .i64 x.frm,.int .i64 x.til,.int .i64 x.key.1,.int .u64 x.key.2.1,.int .i64 x.key.2.2,.bool x.ca,.int .i64 x.room,.int .i64 x.uses,.slice s.a3 s.n3 s.c3,.slice s.a4 s.n4 s.c4,.slice s.a5 s.n5 s.c5,.slice s.a6 s.n6 s.c6,.slice s.a7 s.n7 s.c7,.int .i64 x.need,.int .i64 x.nomap,.int .i64 x.noany,.slice s.a8 s.n8 s.c8,.slice s.a9 s.n9 s.c9]] (by simp [ev,f0]) ?_
    refine (HBD.out W hI.bel).mono ?_
    rintro r W2 ⟨⟨a1,n1,c1,k1,m1,e1,rfl,hzI⟩,hb⟩
    exact ⟨_,rfl,hKQ.out _ _ (hI.put 5 10 rfl rfl (by rw [hz]; decide) rfl hUN rfl HBB (cgT_stb s x sc yy hh l vb w0.heap.size w.heap.size (w.heap.size)) hb ⟨a1,n1,c1,k1,m1,e1,rfl,hzI.mono (Nat.le_trans HRR hI.bel.size)⟩)⟩
   ·intro lQ b W hI hUN hED KQ hKQ
    refine rk_take 2 true 7 rfl rfl (hI.got 2 (od rfl) (edge hED 2 (by kernel_rfl)) rfl) ?_
    obtain ⟨a1,n1,c1,k1,m1,e1,f0,o0⟩:=hI.got 5 (od rfl) (edge hED 5 (by kernel_rfl)) rfl
    replace f0:aT b 10=.agg #[.int .i64 (boxI 1 (ceK x)).cls,.int .i64 (boxI 1 (ceK x)).tag,.bool (boxI 1 (ceK x)).cons,.slice a1 n1 c1,.slice k1 m1 e1]:=f0
    refine opw_call 36 #[.tmp 10] _ _ _ rfl Tryz.func36 (by kernel_rfl) rfl #[.agg #[.int .i64 (boxI 1 (ceK x)).cls,.int .i64 (boxI 1 (ceK x)).tag,.bool (boxI 1 (ceK x)).cons,.slice a1 n1 c1,.slice k1 m1 e1]] (by simp [ev,f0]) ?_
    refine (l2Bytes_R o0 HE.out).mono ?_
    rintro r W2 ⟨a4,c4,rfl,ho,hb⟩
    exact ⟨_,rfl,hKQ.out _ _ (hI.put 6 11 rfl rfl (by rw [hz]; decide) rfl hUN rfl HBB (cgT_stb s x sc yy hh l vb w0.heap.size w.heap.size (w.heap.size)) hb ⟨a4,c4,rfl,ho.mono (Nat.le_trans HBB hI.bel.size)⟩)⟩
   ·intro lQ b W hI hUN hED KQ hKQ
    refine rk_take 2 true 7 rfl rfl (hI.got 2 (od rfl) (edge hED 2 (by kernel_rfl)) rfl) ?_
    exact opw_field 46 2 18 rfl _ ((hI.fr.same 2 (by decide)).trans g2) _ (by kernel_rfl) (hKQ.out _ _ (hI.put 7 12 rfl rfl (by rw [hz]; decide) rfl hUN rfl HBB (cgT_stb s x sc yy hh l vb w0.heap.size w.heap.size (w.heap.size)) (Below.refl _ _) rfl))
   ·intro lQ b W hI hUN hED KQ hKQ
    refine rk_take 2 true 7 rfl rfl (hI.got 2 (od rfl) (edge hED 2 (by kernel_rfl)) rfl) ?_
    have f:=hI.got 7 (od rfl) (edge hED 7 (by kernel_rfl)) rfl
    have hg:=(hI.vot 12 (od rfl) (od rfl) rfl)
    have hc:W.cell? ⟨w.heap.size,20,none⟩=some (.slice s.a9 s.n9 s.c9):=qk hg rfl
    exact opw_load1 32 12 rfl _ f _ (by simp [Instr.loadAt,go_sem,hc]) (hKQ.out _ _ (hI.put 8 13 rfl rfl (by rw [hz]; decide) rfl hUN rfl HBB (cgT_stb s x sc yy hh l vb w0.heap.size w.heap.size (w.heap.size)) (Below.refl _ _) rfl))
   ·intro lQ b W hI hUN hED KQ hKQ
    refine rk_take 2 true 7 rfl rfl (hI.got 2 (od rfl) (edge hED 2 (by kernel_rfl)) rfl) ?_
    have f0:aT b 8=.agg #[.int .i64 sc,.int .u64 yy,.int .i64 hh]:=hI.got 3 (od rfl) (edge hED 3 (by kernel_rfl)) rfl
    obtain ⟨a4,c4,f1,o1⟩:=hI.got 6 (od rfl) (edge hED 6 (by kernel_rfl)) rfl
    replace f1:aT b 11=.slice a4 l.length c4:=f1
    have f2:aT b 13=.slice s.a9 s.n9 s.c9:=hI.got 8 (od rfl) (edge hED 8 (by kernel_rfl)) rfl
    refine opw_call 63 #[.tmp 8,.tmp 11,.tmp 13] _ _ _ rfl Tryz.func63 (by kernel_rfl) rfl #[.agg #[.int .i64 sc,.int .u64 yy,.int .i64 hh],.slice a4 l.length c4,.slice s.a9 s.n9 s.c9] (by simp [ev,f0,f1,f2]) ?_
    refine (HVG.out W a4 c4 hI.bel o1).mono ?_
    rintro r W2 ⟨rfl,hb⟩
    exact ⟨_,rfl,hKQ.out _ _ (hI.put 9 14 rfl rfl (by rw [hz]; decide) rfl hUN rfl HBB (cgT_stb s x sc yy hh l vb w0.heap.size w.heap.size (w.heap.size)) hb rfl)⟩
   ·intro lQ b W hI hUN hED KQ hKQ
    refine rk_plain rfl ?_
    have fc:aT b 7=.bool true:=hI.got 2 (od rfl) (edge hED 2 (by kernel_rfl)) rfl
    have f:=hI.got 9 (od rfl) (edge hED 9 (by kernel_rfl)) rfl
    replace f:aT b 14=.bool vb:=f
    exact opw_pick_t 7 _ _ rfl fc _ f (hKQ.out _ _ (hI.put 10 15 rfl rfl (by rw [hz]; decide) rfl hUN rfl HBB (cgT_stb s x sc yy hh l vb w0.heap.size w.heap.size (w.heap.size)) (Below.refl _ _) rfl))
   ·intro lQ b W hI hUN hED KQ hKQ
    refine rk_plain rfl ?_
    have f:=hI.got 10 (od rfl) (edge hED 10 (by kernel_rfl)) rfl
    exact opw_assign 15 rfl (hKQ.out _ _ (hI.put 11 4 rfl rfl (by rw [hz]; decide) rfl hUN rfl HBB (cgT_stb s x sc yy hh l vb w0.heap.size w.heap.size (w.heap.size)) (Below.refl _ _) f))
  ·intro b W hf hb F
   have e4:aT b 4=.bool vb:=F 11 (od rfl) rfl
   rw [hf.eq]
   simp only [puts,Act.put,List.setIfInBounds_toArray,List.set_cons_zero,List.set_cons_succ,e4]
   clear hf F e4
   generalize aT b=AT
   clear b
   go_wp2
   go_ret
   exact ⟨HVV.out,B0.out.trans hb⟩
 ·have HOK:Hid (∀ W,Below w.heap.size w0 W→Calls Tryz.prog 35 #[.agg #[.int .i64 x.ser,.slice s.a1 s.n1 s.c1,.slice s.a2 s.n2 s.c2,.int .i64 x.frm,.int .i64 x.til,.int .i64 x.key.1,.int .u64 x.key.2.1,.int .i64 x.key.2.2,.bool x.ca,.int .i64 x.room,.int .i64 x.uses,.slice s.a3 s.n3 s.c3,.slice s.a4 s.n4 s.c4,.slice s.a5 s.n5 s.c5,.slice s.a6 s.n6 s.c6,.slice s.a7 s.n7 s.c7,.int .i64 x.need,.int .i64 x.nomap,.int .i64 x.noany,.slice s.a8 s.n8 s.c8,.slice s.a9 s.n9 s.c9]] W fun e w'=>e=.returned (.bool false)∧Below W.heap.size W w'):=fun W hW=>(hok W hW).mono (fun e w' q=>by
   obtain ⟨v,e1,e2,e3⟩:=q
   obtain rfl:=sayB_f e2 hP
   exact ⟨e1,e3⟩)
  obtain ⟨l,hl2⟩:∃ l:List Int,l = []:=⟨_,rfl⟩
  obtain ⟨vb,hvb⟩:∃ vb:Bool,vb=false:=⟨_,rfl⟩
  have HVV:Hid (Ending.returned (.bool false)=.returned (.bool (csV false sc yy hh [] x.sig))):=rfl
  clear h hz ht hu hcg hP hok HVF hvb hl2
  go_enter Tryz.func21,Tryz.ntmps21
  go_upto_region 1 with fail
  rw [← hw0]
  clear hw0
  refine wp_region_rk (cgF s x sc yy hh l vb w0.heap.size w.heap.size (w.heap.size)) [4,5,6,7,8,9,10,11,12,13,14,15] (w.heap.size) (fun a0=>a0.tmps.size=16∧aT a0 2=.pointer (some ⟨w.heap.size,0,none⟩)) (by kernel_rfl) rfl (by kernel_rfl) rfl ⟨rfl,rfl⟩ (cgF_stb s x sc yy hh l vb w0.heap.size w.heap.size (w.heap.size)) ?_ ?_ ?_
  ·intro k hk hk2
   match k,hk,hk2 with
   | 12,_,_=>exact L0.out
   | 13,_,_=>exact P0.out
   | 0,hk,_=>exact absurd hk (by show ¬ (12≤0); omega)
   | 1,hk,_=>exact absurd hk (by show ¬ (12≤1); omega)
   | 2,hk,_=>exact absurd hk (by show ¬ (12≤2); omega)
   | 3,hk,_=>exact absurd hk (by show ¬ (12≤3); omega)
   | 4,hk,_=>exact absurd hk (by show ¬ (12≤4); omega)
   | 5,hk,_=>exact absurd hk (by show ¬ (12≤5); omega)
   | 6,hk,_=>exact absurd hk (by show ¬ (12≤6); omega)
   | 7,hk,_=>exact absurd hk (by show ¬ (12≤7); omega)
   | 8,hk,_=>exact absurd hk (by show ¬ (12≤8); omega)
   | 9,hk,_=>exact absurd hk (by show ¬ (12≤9); omega)
   | 10,hk,_=>exact absurd hk (by show ¬ (12≤10); omega)
   | 11,hk,_=>exact absurd hk (by show ¬ (12≤11); omega)
   | k+14,_,hk2=>exact absurd hk2 (by show ¬ (k+14<14); omega)
  ·rintro a0 ⟨hz,g2⟩
   refine StepsRK.cons ?_ (StepsRK.cons ?_ (StepsRK.cons ?_ (StepsRK.cons ?_ (StepsRK.cons ?_ (StepsRK.cons ?_ (StepsRK.cons ?_ (StepsRK.cons ?_ (StepsRK.cons ?_ (StepsRK.cons ?_ (StepsRK.cons ?_ (StepsRK.cons ?_ (StepsRK.nil))))))))))))
   ·intro lQ b W hI hUN hED KQ hKQ
    refine rk_plain rfl ?_
    have hg:=(hI.vot 12 (od rfl) (od rfl) rfl)
    refine wp_load_row 46 _ rfl (w.heap.size) ((hI.fr.same 2 (by decide)).trans g2) 46 #[.int .i64 x.ser,.slice s.a1 s.n1 s.c1,.slice s.a2 s.n2 s.c2,.int .i64 x.frm,.int .i64 x.til,.int .i64 x.key.1,.int .u64 x.key.2.1,.int .i64 x.key.2.2,.bool x.ca,.int .i64 x.room,.int .i64 x.uses,.slice s.a3 s.n3 s.c3,.slice s.a4 s.n4 s.c4,.slice s.a5 s.n5 s.c5,.slice s.a6 s.n6 s.c6,.slice s.a7 s.n7 s.c7,.int .i64 x.need,.int .i64 x.nomap,.int .i64 x.noany,.slice s.a8 s.n8 s.c8,.slice s.a9 s.n9 s.c9] (0,0) _ hg Tryz.underlying46 rfl (by kernel_rfl) ?_
    exact hKQ.out _ _ (hI.put 0 5 rfl rfl (by rw [hz]; decide) rfl hUN rfl HBB (cgF_stb s x sc yy hh l vb w0.heap.size w.heap.size (w.heap.size)) (Below.refl _ _) rfl)
   ·intro lQ b W hI hUN hED KQ hKQ
    refine rk_plain rfl ?_
    have f0:aT b 5=.agg #[.int .i64 x.ser,.slice s.a1 s.n1 s.c1,.slice s.a2 s.n2 s.c2,.int .i64 x.frm,.int .i64 x.til,.int .i64 x.key.1,.int .u64 x.key.2.1,.int .i64 x.key.2.2,.bool x.ca,.int .i64 x.room,.int .i64 x.uses,.slice s.a3 s.n3 s.c3,.slice s.a4 s.n4 s.c4,.slice s.a5 s.n5 s.c5,.slice s.a6 s.n6 s.c6,.slice s.a7 s.n7 s.c7,.int .i64 x.need,.int .i64 x.nomap,.int .i64 x.noany,.slice s.a8 s.n8 s.c8,.slice s.a9 s.n9 s.c9]:=hI.got 0 (od rfl) (edge hED 0 (by kernel_rfl)) rfl
    refine opw_call 35 #[.tmp 5] _ _ _ rfl Tryz.func35 (by kernel_rfl) rfl #[.agg #[.int .i64 x.ser,.slice s.a1 s.n1 s.c1,.slice s.a2 s.n2 s.c2,.int .i64 x.frm,.int .i64 x.til,.int .i64 x.key.1,.int .u64 x.key.2.1,.int .i64 x.key.2.2,.bool x.ca,.int .i64 x.room,.int .i64 x.uses,.slice s.a3 s.n3 s.c3,.slice s.a4 s.n4 s.c4,.slice s.a5 s.n5 s.c5,.slice s.a6 s.n6 s.c6,.slice s.a7 s.n7 s.c7,.int .i64 x.need,.int .i64 x.nomap,.int .i64 x.noany,.slice s.a8 s.n8 s.c8,.slice s.a9 s.n9 s.c9]] (by simp [ev,f0]) ?_
    refine (HOK.out W hI.bel).mono ?_
    rintro r W2 ⟨rfl,hb⟩
    exact ⟨_,rfl,hKQ.out _ _ (hI.put 1 6 rfl rfl (by rw [hz]; decide) rfl hUN rfl HBB (cgF_stb s x sc yy hh l vb w0.heap.size w.heap.size (w.heap.size)) hb rfl)⟩
   ·intro lQ b W hI hUN hED KQ hKQ
    refine rk_plain rfl ?_
    have f:=hI.got 1 (od rfl) (edge hED 1 (by kernel_rfl)) rfl
    exact opw_move 6 rfl (hKQ.out _ _ (hI.put 2 7 rfl rfl (by rw [hz]; decide) rfl hUN rfl HBB (cgF_stb s x sc yy hh l vb w0.heap.size w.heap.size (w.heap.size)) (Below.refl _ _) f))
   ·intro lQ b W hI hUN hED KQ hKQ
    exact rk_skip 2 true 7 (.bool false) rfl rfl (hI.got 2 (od rfl) (edge hED 2 (by kernel_rfl)) rfl) rfl (hKQ.out _ _ (hI.put 3 8 rfl rfl (by rw [hz]; decide) rfl hUN rfl HBB (cgF_stb s x sc yy hh l vb w0.heap.size w.heap.size (w.heap.size)) (Below.refl _ _) rfl))
   ·intro lQ b W hI hUN hED KQ hKQ
    exact rk_skip 2 true 7 (.bool false) rfl rfl (hI.got 2 (od rfl) (edge hED 2 (by kernel_rfl)) rfl) rfl (hKQ.out _ _ (hI.put 4 9 rfl rfl (by rw [hz]; decide) rfl hUN rfl HBB (cgF_stb s x sc yy hh l vb w0.heap.size w.heap.size (w.heap.size)) (Below.refl _ _) rfl))
   ·intro lQ b W hI hUN hED KQ hKQ
    exact rk_skip 2 true 7 (.bool false) rfl rfl (hI.got 2 (od rfl) (edge hED 2 (by kernel_rfl)) rfl) rfl (hKQ.out _ _ (hI.put 5 10 rfl rfl (by rw [hz]; decide) rfl hUN rfl HBB (cgF_stb s x sc yy hh l vb w0.heap.size w.heap.size (w.heap.size)) (Below.refl _ _) rfl))
   ·intro lQ b W hI hUN hED KQ hKQ
    exact rk_skip 2 true 7 (.bool false) rfl rfl (hI.got 2 (od rfl) (edge hED 2 (by kernel_rfl)) rfl) rfl (hKQ.out _ _ (hI.put 6 11 rfl rfl (by rw [hz]; decide) rfl hUN rfl HBB (cgF_stb s x sc yy hh l vb w0.heap.size w.heap.size (w.heap.size)) (Below.refl _ _) rfl))
   ·intro lQ b W hI hUN hED KQ hKQ
    exact rk_skip 2 true 7 (.bool false) rfl rfl (hI.got 2 (od rfl) (edge hED 2 (by kernel_rfl)) rfl) rfl (hKQ.out _ _ (hI.put 7 12 rfl rfl (by rw [hz]; decide) rfl hUN rfl HBB (cgF_stb s x sc yy hh l vb w0.heap.size w.heap.size (w.heap.size)) (Below.refl _ _) rfl))
   ·intro lQ b W hI hUN hED KQ hKQ
    exact rk_skip 2 true 7 (.bool false) rfl rfl (hI.got 2 (od rfl) (edge hED 2 (by kernel_rfl)) rfl) rfl (hKQ.out _ _ (hI.put 8 13 rfl rfl (by rw [hz]; decide) rfl hUN rfl HBB (cgF_stb s x sc yy hh l vb w0.heap.size w.heap.size (w.heap.size)) (Below.refl _ _) rfl))
   ·intro lQ b W hI hUN hED KQ hKQ
    exact rk_skip 2 true 7 (.bool false) rfl rfl (hI.got 2 (od rfl) (edge hED 2 (by kernel_rfl)) rfl) rfl (hKQ.out _ _ (hI.put 9 14 rfl rfl (by rw [hz]; decide) rfl hUN rfl HBB (cgF_stb s x sc yy hh l vb w0.heap.size w.heap.size (w.heap.size)) (Below.refl _ _) rfl))
   ·intro lQ b W hI hUN hED KQ hKQ
    refine rk_plain rfl ?_
    have fc:aT b 7=.bool false:=hI.got 2 (od rfl) (edge hED 2 (by kernel_rfl)) rfl
    exact opw_pick_f 7 _ _ rfl fc _ rfl (hKQ.out _ _ (hI.put 10 15 rfl rfl (by rw [hz]; decide) rfl hUN rfl HBB (cgF_stb s x sc yy hh l vb w0.heap.size w.heap.size (w.heap.size)) (Below.refl _ _) rfl))
   ·intro lQ b W hI hUN hED KQ hKQ
    refine rk_plain rfl ?_
    have f:=hI.got 10 (od rfl) (edge hED 10 (by kernel_rfl)) rfl
    exact opw_assign 15 rfl (hKQ.out _ _ (hI.put 11 4 rfl rfl (by rw [hz]; decide) rfl hUN rfl HBB (cgF_stb s x sc yy hh l vb w0.heap.size w.heap.size (w.heap.size)) (Below.refl _ _) f))
  ·intro b W hf hb F
   have e4:aT b 4=.bool false:=F 11 (od rfl) rfl
   rw [hf.eq]
   simp only [puts,Act.put,List.setIfInBounds_toArray,List.set_cons_zero,List.set_cons_succ,e4]
   clear hf F e4
   generalize aT b=AT
   clear b
   go_wp2
   go_ret
   exact ⟨HVV.out,B0.out.trans hb⟩
end Go.Proofs.YtmdfbnlgfhjnoaaGreatDoor
