import Derived.Test.YtkdandggklpppaaGreatDoorFE45
set_option maxRecDepth 10000
set_option maxHeartbeats 8000000
set_option linter.unusedVariables false
namespace Go.Proofs.YtkdandggklpppaaGreatDoor
open Go.RowKit
def SgA (w:World)(p:Nat)(leaf:Int)(e1 e2:Value):Prop:=w.heap[p]? = some (.cells #[.int .i64 leaf,e1,e2] 76 (0,0))
theorem SgA.c0 {w:World}{p:Nat}{leaf:Int}{e1 e2:Value}(h:SgA w p leaf e1 e2):w.cell? ⟨p,0,none⟩=some (.int .i64 leaf):=(cell_of_row _ _ 0 _ 76 (0,0) h).trans rfl
theorem SgA.c1 {w:World}{p:Nat}{leaf:Int}{e1 e2:Value}(h:SgA w p leaf e1 e2):w.cell? ⟨p,1,none⟩=some e1:=(cell_of_row _ _ 1 _ 76 (0,0) h).trans rfl
theorem SgA.c2 {w:World}{p:Nat}{leaf:Int}{e1 e2:Value}(h:SgA w p leaf e1 e2):w.cell? ⟨p,2,none⟩=some e2:=(cell_of_row _ _ 2 _ 76 (0,0) h).trans rfl
theorem SgA.fz {w:World}{p:Nat}{leaf:Int}{e1 e2:Value}(h:SgA w p leaf e1 e2)(i:Nat):w.frozen? ⟨p,i,none⟩=false:=frozen_of_row w _ i _ 76 h
theorem SgA.kept {B:Nat}{w w':World}{p:Nat}{leaf:Int}{e1 e2:Value}(h:SgA w p leaf e1 e2)(hp:p<B)(hb:Below B w w'):SgA w' p leaf e1 e2:=(hb.block _ hp).trans h
theorem SgA.put1 {w:World}{p:Nat}{leaf:Int}{e1 e2:Value}(h:SgA w p leaf e1 e2)(v:Value):SgA (w.setCell ⟨p,1,none⟩ v) p leaf v e2:=heap_setCell_same w p 1 _ 76 v h
theorem SgA.put2 {w:World}{p:Nat}{leaf:Int}{e1 e2:Value}(h:SgA w p leaf e1 e2)(v:Value):SgA (w.setCell ⟨p,2,none⟩ v) p leaf e1 v:=heap_setCell_same w p 2 _ 76 v h
theorem tb_below {lo hi:Nat}{a b c:World}(h:Touch lo hi a b)(k:Below a.heap.size b c):Touch lo hi a c :=
 ⟨k.os.trans h.os,k.tape.trans h.tape,k.output.trans h.output,Nat.le_trans h.size k.size,fun i hi' ho=>(k.block i hi').trans (h.block i hi' ho)⟩
theorem tb_set {p:Nat}{a b:World}(h:Touch p (p+1) a b)(i:Nat)(v:Value):Touch p (p+1) a (b.setCell ⟨p,i,none⟩ v) :=
 h.trans ⟨rfl,rfl,rfl,by simp,fun k _ ho=>Below.heap_setCell _ _ _ _ (by simp; omega)⟩
theorem u64_dropK {zs:List Int}(h:∀ k,U64 (zs.getD k 0))(j:Nat):∀ k,U64 ((zs.drop j).getD k 0):=by
 intro k
 have:=h (j+k)
 rw [List.getD_eq_getElem?_getD,List.getElem?_drop]
 simpa [List.getD_eq_getElem?_getD] using this
theorem rowU_below {w w':World}{g n B:Nat}{zs:List Int}(h:RowU w (some ⟨g,0,none⟩) n zs)(hg:g<B)(hb:Below B w w'):RowU w' (some ⟨g,0,none⟩) n zs:=by
 refine ⟨h.len,fun k hk=>?_,h.rng⟩
 obtain ⟨b',off',e,hbl,hc⟩:=h.get k hk
 simp only [Option.some.injEq,Addr.mk.injEq,and_true] at e
 obtain ⟨rfl,rfl⟩:=e
 exact ⟨g,0,rfl,Nat.lt_of_lt_of_le hbl (by have:=hb.size; omega),(hb.cell (p:=⟨g,0+k,none⟩) hg).trans hc⟩
theorem rowU_put {w:World}{g n p:Nat}{zs:List Int}(h:RowU w (some ⟨g,0,none⟩) n zs)(hg:g≠p)(i:Nat)(v:Value):RowU (w.setCell ⟨p,i,none⟩ v) (some ⟨g,0,none⟩) n zs:=by
 refine ⟨h.len,fun k hk=>?_,h.rng⟩
 obtain ⟨b',off',e,hbl,hc⟩:=h.get k hk
 simp only [Option.some.injEq,Addr.mk.injEq,and_true] at e
 obtain ⟨rfl,rfl⟩:=e
 exact ⟨g,0,rfl,by simpa using hbl,(World.cell?_of_block (a:=⟨g,0+k,none⟩) (Below.heap_setCell _ _ _ _ (by simp; omega))).trans hc⟩
def VaRel (w4:World)(p:Nat)(leaf:Int)(ds:List Int)(m:Nat)(i:Value)(wr:World):Prop:=∃ (q:Nat) (v1 v2:Value),q≤m∧i=.int .i64 (8 * (q:Int))∧Hid (SgA wr p leaf v1 v2)∧Hid (Touch p (p+1) w4 wr)∧Hid ((q≤18∧v2=.slice none 0 0∧∃ ao cc,v1=.slice ao q cc∧OwnU w4.heap.size wr ao q cc (ds.take q))∨(18<q∧∃ (M g cc:Nat) (ap:Option Addr) (cp:Nat),w4.heap.size≤M∧M≤wr.heap.size∧w4.heap.size≤g∧g<M∧v1=.slice (some ⟨g,0,none⟩) 18 cc∧v2=.slice ap (q - 18) cp∧RowU wr (some ⟨g,0,none⟩) 18 (ds.take 18)∧OwnU M wr ap (q - 18) cp ((ds.drop 18).take (q - 18))))
theorem wdK_drop (bs:List Int)(k j:Nat):wdK (bs.drop k) 0 j=wdK bs k j:=by
 induction j with
 | zero=>rfl
 | succ j ih=>rw [wdK,wdK,ih,Nat.zero_add,List.getD_eq_getElem?_getD,List.getElem?_drop,← List.getD_eq_getElem?_getD]
theorem specVerifyAny_any (sc y h:Int)(am:Option Addr)(n c:Nat)(ms:List Int)(ag:Option Addr)(ng cg:Nat)(ss:List Int)(w:World)(hy:U64 y)(hr:Row w am n ms)(hn:n≤1048576)(hc:am=none→c=0)(hg:Row w ag ng ss)(hng:ng≤1048576)(hcg:ng≤cg) :
  Calls Tryz.prog 14 #[kpv sc y h,.slice am n c,.slice ag ng cg] w fun e w'=>e=.returned (.bool (decide (anyP sc y h ms ss)))∧Below w.heap.size w w':=by
 obtain ⟨i0,hi,hz0,hz1,hz2⟩:=info_parts Tryz.infoU
 obtain ⟨wb,hwb⟩:∃ wb,wb=w.alloc (.cells #[.int .i64 sc,.int .u64 y,.int .i64 h] 41):=⟨_,rfl⟩
 have hbb:Below w.heap.size w wb:=by rw [hwb]; exact (Below.refl _ _).alloc (Nat.le_refl _) _
 have hbx:wb.heap[w.heap.size]? = some (.cells #[.int .i64 sc,.int .u64 y,.int .i64 h] 41):=by rw [hwb]; exact heap_alloc_new _ _
 have hlw:w.heap.size<wb.heap.size:=(Array.getElem?_eq_some_iff.1 hbx).1
 have HXD:∀ w7,Below wb.heap.size wb w7→w7.cell? ⟨w.heap.size,0,none⟩=some (.int .i64 sc)∧w7.cell? ⟨w.heap.size,1,none⟩=some (.int .u64 y)∧w7.cell? ⟨w.heap.size,2,none⟩=some (.int .i64 h):=by
  intro w7 h7
  have e0:=(h7.block _ hlw).trans hbx
  exact ⟨(cell_of_row _ _ 0 _ 41 (0,0) e0).trans rfl,(cell_of_row _ _ 1 _ 41 (0,0) e0).trans rfl,(cell_of_row _ _ 2 _ 41 (0,0) e0).trans rfl⟩
 have HBX:Hid (_=_):=hbx
 have HW:Hid (_=_):=hwb
 have HM:Hid (∀ w7,Below wb.heap.size wb w7→Row w7 am n ms):=fun w7 h7=>hr.kept (keepT hbb h7)
 have HG:Hid (∀ w7,Below wb.heap.size wb w7→Row w7 ag ng ss):=fun w7 h7=>hg.kept (keepT hbb h7)
 have HL:Hid (ss.length=ng):=hg.len
 have hpl:=getN_place ss 0
 obtain ⟨t1,ht1⟩:∃ t1,t1=getN ss 0:=⟨_,rfl⟩
 have H1:Hid (getN ss 0=t1):=ht1.symm
 rw [← ht1,HL.out] at hpl
 obtain ⟨leaf,at1,k1⟩:=t1
 simp only at hpl
 clear hwb hg hr hbx ht1
 unfold kpv
 go_enter Tryz.func14,Tryz.ntmps14
 go_wp2_with fail
 rw [← HW.out]
 clear HW
 refine (l8PubOk_any sc y h _ hy).mono ?_
 rintro e w2 ⟨rfl,hb2⟩
 obtain ⟨s0,s1,s2⟩:=HXD _ hb2
 have HG2:=HG.out _ hb2
 have hBB:=keepT hbb hb2
 by_cases hp:pubP sc y h
 ·rw [decide_eq_true hp]
  go_wp2_with fail
  refine (specGetNum_any ag ng cg ss 0 _ HG2 (by omega)).mono ?_
  rintro e w3 ⟨rfl,hw⟩
  have hw3:=hw.symm
  subst hw3
  rw [H1.out,trip]
  by_cases hk1:k1=0
  ·have z1:(k1 != 0)=false:=by simp [hk1]
   rcases hp with ⟨h1,hp⟩ | ⟨h1,hp⟩
   ·subst h1
    obtain ⟨hy0,hy1⟩:=keyP_lt hp.1
    obtain ⟨t2,ht2⟩:∃ t2,t2=getN ss at1:=⟨_,rfl⟩
    have H2:Hid (getN ss at1=t2):=ht2.symm
    obtain ⟨e2,at2,k2⟩:=t2
    have HV:Hid (anyP 1 y h ms ss↔(k2=0∧at2=(ng:Int)∧verP y ms (leaf,e2))):=by
     show _↔_
     unfold anyP vgP
     rw [H1.out,H2.out,HL.out]
     exact ⟨fun a=>a.elim (fun a=>⟨a.2.2.2.1,a.2.2.2.2⟩) (fun a=>absurd a.1 (by decide)),fun a=>.inl ⟨rfl,hp,hk1,a⟩⟩
    clear ht2 hpl hk1
    go_wp2_with fail
    refine (specGetNum_any ag ng cg ss at1 _ HG2 (by omega)).mono ?_
    rintro e w3 ⟨rfl,hw⟩
    have hw3:=hw.symm
    subst hw3
    rw [H2.out,trip]
    by_cases hk2:k2=0
    ·have z2:(k2 == 0)=true:=by simp [hk2]
     by_cases ha:at2=(ng:Int)
     ·have z3:(at2 == (ng:Int))=true:=by simp [ha]
      have HE:Hid (decide (anyP 1 y h ms ss)=decide (verP y ms (leaf,e2))):=decide_eq_decide.2 ⟨fun a=>(HV.out.1 a).2.2,fun a=>HV.out.2 ⟨hk2,ha,a⟩⟩
      clear hk2 ha
      go_wp2_with fail
      refine (specVerify_any y am n c ms (leaf,e2) _ (HM.out _ hb2) hn hc).mono ?_
      rintro e w3 ⟨rfl,hb3⟩
      go_wp2
      go_ret
      exact ⟨by rw [HE.out]; rfl,keepT hBB hb3⟩
     ·have z3:(at2 == (ng:Int))=false:=by simp [ha]
      have HE:Hid (decide (anyP 1 y h ms ss)=false):=decide_eq_false (fun a=>ha (HV.out.1 a).2.1)
      clear hk2 ha
      go_wp2
      go_ret
      exact ⟨by rw [HE.out]; rfl,hBB⟩
    ·have z2:(k2 == 0)=false:=by simp [hk2]
     have HE:Hid (decide (anyP 1 y h ms ss)=false):=decide_eq_false (fun a=>hk2 (HV.out.1 a).1)
     clear hk2
     go_wp2
     go_ret
     exact ⟨by rw [HE.out]; rfl,hBB⟩
   ·subst h1
    obtain ⟨hh0,hh5⟩:=hp
    obtain ⟨hp0,hp1⟩:=hpl hk1
    obtain ⟨A,rfl⟩:=Int.eq_ofNat_of_zero_le hp0
    have hA:A≤ng:=by omega
    have hA2:(A:Int)≤(ng:Int):=by omega
    have hA3:(A:Int)≤(cg:Int):=by omega
    by_cases ha:(ng:Int) - (A:Int)=8 * (18+h)
    ·have z3:((ng:Int) - (A:Int) != 8 * (18+h))=false:=by simp [ha]
     have z4:(((ng - A:Nat):Int) != 8 * (18+h))=false:=by simp; omega
     obtain ⟨m,hm⟩:∃ m,m=(18+h).toNat:=⟨_,rfl⟩
     have hmh:(m:Int)=18+h:=by omega
     have HE:Hid (anyP 2 y h ms ss↔tvP y h ms leaf ((dgs (ss.drop A) m).take 18) ((dgs (ss.drop A) m).drop 18)):=by
      show _↔_
      unfold anyP vtP
      rw [H1.out,HL.out,← hm]
      exact ⟨fun x=>x.elim (fun a=>absurd a.1 (by decide)) (fun a=>a.2.2.2.2),fun x=>.inr ⟨rfl,⟨hh0,hh5⟩,hk1,ha,x⟩⟩
     have HG3:Hid (Row w2 ag ng ss):=HG2
     obtain ⟨b,off,rfl,hbl,_⟩:=HG2.get 0 (by omega)
     have HS:Hid (Row w2 (some ⟨b,off+A,none⟩) (ng - A) (ss.drop A)):=HG2.drop A hA
     have hNA:8 * m=ng - A:=by omega
     have HA:Hid ((ng:Int) - (A:Int)=8 * (18+h)):=ha
     clear ha hk1 hm hpl hp0 hp1 HG2
     obtain ⟨w4,hw4⟩:∃ w4,w4=w2.alloc (.cells #[.int .i64 leaf,.slice none 0 0,.slice none 0 0] 76):=⟨_,rfl⟩
     obtain ⟨p,hpe⟩:∃ p,p=w2.heap.size:=⟨_,rfl⟩
     have hb4:Below w2.heap.size w2 w4:=by rw [hw4]; exact (Below.refl _ _).alloc (Nat.le_refl _) _
     have HS4:Hid (SgA w4 p leaf (.slice none 0 0) (.slice none 0 0)):=by show _=_; rw [hw4,hpe]; exact heap_alloc_new _ _
     have hp4:p<w4.heap.size:=(Array.getElem?_eq_some_iff.1 HS4.out).1
     have HW4:Hid (_=_):=hw4
     have HP:Hid (_=_):=hpe
     have hwp:w.heap.size<p:=by have:=hb2.size; omega
     have hbp:b<p:=by rw [hpe]; exact hbl
     have HB4:Hid (Below w.heap.size w w4):=keepT hBB hb4
     obtain ⟨ds,hds⟩:∃ ds,ds=dgs (ss.drop A) m:=⟨_,rfl⟩
     have HDS:Hid (ds=dgs (ss.drop A) m):=hds
     have hdl:ds.length=m:=by rw [hds]; exact dgs_len _ _
     have HDB:Hid (∀ k,U64 (ds.getD k 0)):=by rw [hds]; exact dgs_bd _ HS.out.byte m
     rw [← hds] at HE
     have HBW:Hid (∀ w7,Touch p (p+1) w4 w7→Below w2.heap.size w2 w7):=by
      intro w7 h7
      have h8:=h7.below (B:=w2.heap.size) (by omega) hb4.size
      exact hb4.trans h8
     have HX4:Hid (∀ w7,Touch p (p+1) w4 w7→w7.cell? ⟨w.heap.size,0,none⟩=some (.int .i64 2)∧w7.cell? ⟨w.heap.size,1,none⟩=some (.int .u64 y)∧w7.cell? ⟨w.heap.size,2,none⟩=some (.int .i64 h)):=fun w7 h7=>HXD _ (keepT hb2 (HBW.out _ h7))
     have HR4:Hid (∀ w7,Touch p (p+1) w4 w7→Row w7 (some ⟨b,off+A,none⟩) (ng - A) (ss.drop A)):=fun w7 h7=>HS.out.kept (HBW.out _ h7)
     have HM4:Hid (∀ w7,Touch p (p+1) w4 w7→Row w7 am n ms):=fun w7 h7=>HM.out _ (keepT hb2 (HBW.out _ h7))
     have hm18:18≤m:=by omega
     have hm23:m≤23:=by omega
     clear hw4 hpe hds s0 s1 s2
     go_upto_region 13 with fail
     rw [← HW4.out,← HP.out]
     go_wp2
     go_loopw [15] (fun i wr=>VaRel w4 p leaf ds m i wr) (fun i _=>8 * m - (intOf i).toNat)
     case atStart=>exact ⟨0,_,_,Nat.zero_le _,rfl,HS4,Touch.of_below (Below.refl _ _),.inl ⟨by decide,rfl,none,0,rfl,ownU_none _ _⟩⟩
     case round =>
      obtain ⟨q,v1,v2,hq,rfl,HSr,HTr,HO⟩:=hrel
      have hw4r:w4.heap.size≤wr.heap.size:=HTr.out.size
      by_cases hqm:q<m
      ·have hqmi:8 * (q:Int)<((ng - A:Nat):Int):=by omega
       have u1:(8 * (q:Int)).toNat=8 * q:=by omega
       have hb0:0≤8 * (q:Int):=by omega
       have hb1:8 * (q:Int)≤((ng - A:Nat):Int):=by omega
       have hb2:8 * (q:Int)≤((cg - A:Nat):Int):=by omega
       have hq3:(q:Int)≤18+h:=by omega
       have hcq:¬ (cg - A=8 * q):=by omega
       have hdr:Below wr.heap.size wr wr.drew:=(Below.refl _ _).drew
       have HRW:Hid (∀ w7,Below wr.heap.size wr w7→Row w7 (some ⟨b,off+A+8 * q,none⟩) (ng - A - 8 * q) ((ss.drop A).drop (8 * q))):=fun w7 h7=>(HR4.out _ (HTr.out.trans (Touch.of_below h7))).drop (8 * q) (by omega)
       obtain ⟨x,hx⟩:∃ x,x=ds.getD q 0:=⟨_,rfl⟩
       have HXV:Hid (wdK ((ss.drop A).drop (8 * q)) 0 8=x):=by show _=_; rw [wdK_drop,hx,HDS.out,dgs_get _ _ _ hqm]
       have HXE:Hid (x=ds.getD q 0):=hx
       clear hx
       by_cases hq18:q<18
       ·have hq18i:8 * (q:Int)<144:=by omega
        obtain ⟨rfl,ao,cc,rfl,HOr⟩:v2=.slice none 0 0∧∃ ao cc,v1=.slice ao q cc∧OwnU w4.heap.size wr ao q cc (ds.take q):=HO.out.elim (fun a=>a.2) (fun a=>absurd a.1 (by omega))
        have HOr:Hid (OwnU w4.heap.size wr ao q cc (ds.take q)):=HOr
        have HXX:Hid (∀ w7,Below w4.heap.size wr w7→w7.cell? ⟨p,1,none⟩=some (.slice ao q cc)∧w7.frozen? ⟨p,1,none⟩=false):=by
         intro w7 h7
         have k2:=HSr.out.kept hp4 h7
         exact ⟨k2.c1,k2.fz 1⟩
        have HE1:Hid ((ds.take q).map (Value.int .u64)++[x].map (Value.int .u64)=(ds.take (q+1)).map (Value.int .u64)):=by show _=_; rw [take_snoc ds q (by omega),← HXE.out,List.map_append]
        obtain ⟨t00,t01⟩:=HXX.out _ (Below.refl _ _)
        obtain ⟨t10,t11⟩:=HXX.out _ (hdr.mono hw4r)
        clear HO
        go_upto_region 17 with fail
        go_region_law
         (first
          | (go_simp; go_at_call 34; refine (l8Word_any (some ⟨b,off+A+8 * q,none⟩) (ng - A - 8 * q) (cg - A - 8 * q) ((ss.drop A).drop (8 * q)) _ (HRW.out _ hdr) (by omega) (by omega)).mono ?_; rintro e w6 ⟨rfl,hw⟩; rw [HXV.out]; have hb6:Below wr.heap.size wr w6:=Eq.mpr (congrArg (Below wr.heap.size wr) hw) hdr; obtain ⟨t30,t31⟩:=HXX.out _ (hb6.mono hw4r); clear hw; have hal:Below wr.heap.size wr (w6.alloc (.cells #[.int .u64 x] 29)):=hb6.alloc hb6.size _; obtain ⟨t40,t41⟩:=HXX.out _ (hal.mono hw4r); have hor3:=(HOr.out.kept hal).row; have hcl:=cell_oneU w6 x)
          | (refine step_append_ownT rfl (.tmp 76) (.tmp 81) 74 rfl w4.heap.size 29 i0 _ 1 8 Tryz.underlying74 hi hz0 hz1 hz2 rfl (by decide) _ q _ (by simp [Act.eval]) hor3 ⟨w6.heap.size,0,none⟩ 1 1 ([x].map (Value.int .u64)) (by simp [Act.eval]) rfl hcl (ints_oneCell .u64 [x]) (by unfold maxLen; omega) (by omega) (by have:=hal.size; omega) ?_; intro v4 w8 hv4 hg4; have hbr4:Below w4.heap.size wr w8:=(hal.mono hw4r).grown hg4 (by have:=hal.size; omega) (fun k hk=>(hor3.lt k hk).1); obtain ⟨t50,t51⟩:=HXX.out _ hbr4; rw [HE1.out] at hv4; obtain ⟨a4,c4,rfl,ho4⟩:=ownU_appended (u64_take HDB.out _) hv4))
        all_goals
         go_wp2
         go_roundw
         case rel=>exact (show VaRel w4 p leaf ds m _ _ from ⟨q+1,_,_,by omega,by go_num,(HSr.out.kept hp4 hbr4).put1 _,tb_set (tb_below HTr.out hbr4) 1 _,.inl ⟨by omega,rfl,a4,c4,rfl,ho4.set hp4 _ _⟩⟩)
         case measure=>simp [intOf]; omega
       ·have hq18i:¬ (8 * (q:Int)<144):=by omega
        obtain ⟨M,g,cc,ap,cp,hM1,hM2,hg4w,hgM,rfl,rfl,HE0,HOr⟩:∃ (M g cc:Nat) (ap:Option Addr) (cp:Nat),w4.heap.size≤M∧M≤wr.heap.size∧w4.heap.size≤g∧g<M∧v1=.slice (some ⟨g,0,none⟩) 18 cc∧v2=.slice ap (q - 18) cp∧RowU wr (some ⟨g,0,none⟩) 18 (ds.take 18)∧OwnU M wr ap (q - 18) cp ((ds.drop 18).take (q - 18)):=by
         rcases HO.out with ⟨h1,rfl,ao,cc,rfl,h2⟩ | ⟨_,h2⟩
         ·obtain rfl:q=18:=by omega
          obtain ⟨g,rfl,hg1,hg2⟩:=h2.shape (by omega)
          exact ⟨wr.heap.size,g,cc,none,0,hw4r,Nat.le_refl _,hg1,hg2,rfl,rfl,h2.toRow,ownU_none _ _⟩
         ·exact h2
        have HOr:Hid (OwnU M wr ap (q - 18) cp ((ds.drop 18).take (q - 18))):=HOr
        have HE0:Hid (RowU wr (some ⟨g,0,none⟩) 18 (ds.take 18)):=HE0
        have HXX:Hid (∀ w7,Below M wr w7→w7.cell? ⟨p,2,none⟩=some (.slice ap (q - 18) cp)∧w7.frozen? ⟨p,2,none⟩=false):=by
         intro w7 h7
         have k2:=HSr.out.kept (Nat.lt_of_lt_of_le hp4 hM1) h7
         exact ⟨k2.c2,k2.fz 2⟩
        have HE1:Hid (((ds.drop 18).take (q - 18)).map (Value.int .u64)++[x].map (Value.int .u64)=((ds.drop 18).take (q - 18+1)).map (Value.int .u64)):=by
         show _=_
         rw [take_snoc (ds.drop 18) (q - 18) (by rw [List.length_drop]; omega),HXE.out,List.map_append,List.getD_eq_getElem?_getD (l:=ds.drop 18),List.getElem?_drop,show 18+(q - 18)=q by omega,← List.getD_eq_getElem?_getD]
        obtain ⟨t00,t01⟩:=HXX.out _ (Below.refl _ _)
        obtain ⟨t10,t11⟩:=HXX.out _ (hdr.mono hM2)
        clear HO
        go_upto_region 18 with fail
        go_region_law
         (first
          | (go_simp; go_at_call 34; refine (l8Word_any (some ⟨b,off+A+8 * q,none⟩) (ng - A - 8 * q) (cg - A - 8 * q) ((ss.drop A).drop (8 * q)) _ (HRW.out _ hdr) (by omega) (by omega)).mono ?_; rintro e w6 ⟨rfl,hw⟩; rw [HXV.out]; have hb6:Below wr.heap.size wr w6:=Eq.mpr (congrArg (Below wr.heap.size wr) hw) hdr; obtain ⟨t30,t31⟩:=HXX.out _ (hb6.mono hM2); clear hw; have hal:Below wr.heap.size wr (w6.alloc (.cells #[.int .u64 x] 29)):=hb6.alloc hb6.size _; obtain ⟨t40,t41⟩:=HXX.out _ (hal.mono hM2); have hor3:=(HOr.out.kept hal).row; have hcl:=cell_oneU w6 x)
          | (refine step_append_ownT rfl (.tmp 85) (.tmp 90) 74 rfl M 29 i0 _ 1 8 Tryz.underlying74 hi hz0 hz1 hz2 rfl (by decide) _ (q - 18) _ (by simp [Act.eval]) hor3 ⟨w6.heap.size,0,none⟩ 1 1 ([x].map (Value.int .u64)) (by simp [Act.eval]) rfl hcl (ints_oneCell .u64 [x]) (by unfold maxLen; omega) (by omega) (by have:=hal.size; omega) ?_; intro v4 w8 hv4 hg4; have hbr4:Below M wr w8:=(hal.mono hM2).grown hg4 (by have:=hal.size; omega) (fun k hk=>(hor3.lt k hk).1); obtain ⟨t50,t51⟩:=HXX.out _ hbr4; rw [HE1.out] at hv4; obtain ⟨a4,c4,rfl,ho4⟩:=ownU_appended (u64_take (u64_dropK HDB.out 18) _) hv4))
        all_goals
         go_wp2
         go_roundw
         case rel=>exact (show VaRel w4 p leaf ds m _ _ from ⟨q+1,_,_,by omega,by go_num,(HSr.out.kept (Nat.lt_of_lt_of_le hp4 hM1) hbr4).put2 _,tb_set (tb_below HTr.out (hbr4.mono hM1)) 2 _,.inr ⟨by omega,M,g,cc,a4,c4,hM1,by have:=hbr4.size; simp; omega,hg4w,hgM,rfl,by rw [show q+1 - 18=q - 18+1 by omega],rowU_put (rowU_below HE0.out hgM hbr4) (by omega) _ _,by rw [show q+1 - 18=q - 18+1 by omega]; exact ho4.set (Nat.lt_of_lt_of_le hp4 hM1) _ _⟩⟩)
         case measure=>simp [intOf]; omega
      ·obtain rfl:q=m:=by omega
       have hqmi:¬ (8 * (q:Int)<((ng - A:Nat):Int)):=by omega
       obtain ⟨g,cc,ap,cp,rfl,rfl,h5,h6⟩:∃ (g cc:Nat) (ap:Option Addr) (cp:Nat),v1=.slice (some ⟨g,0,none⟩) 18 cc∧v2=.slice ap (q - 18) cp∧RowU wr (some ⟨g,0,none⟩) 18 (ds.take 18)∧RowU wr ap (q - 18) (ds.drop 18):=by
        rcases HO.out with ⟨h1,rfl,ao,cc,rfl,h2⟩ | ⟨_,M,g,cc,ap,cp,_,_,_,_,rfl,rfl,h2,h3⟩
        ·obtain rfl:q=18:=by omega
         obtain ⟨g,rfl,hg1,hg2⟩:=h2.shape (by omega)
         refine ⟨g,cc,none,0,rfl,rfl,h2.toRow,?_⟩
         rw [List.drop_of_length_le (by omega)]
         exact (ownU_none 0 wr).toRow
        ·refine ⟨g,cc,ap,cp,rfl,rfl,h2,?_⟩
         have:=h3.toRow
         rwa [List.take_of_length_le (by rw [List.length_drop]; omega)] at this
       have HR5:Hid (RowU wr (some ⟨g,0,none⟩) 18 (ds.take 18)):=h5
       have HR6:Hid (RowU wr ap (q - 18) (ds.drop 18)):=h6
       obtain ⟨x0,x1,x2⟩:=HX4.out _ HTr.out
       have c0:=HSr.out.c0
       have c1:=HSr.out.c1
       have c2:=HSr.out.c2
       have HBF:Hid (Below w.heap.size w wr):=keepT hBB (HBW.out _ HTr.out)
       clear h5 h6 HO
       go_wp2_with fail
       refine (specTreeVerify_any y h am n c ms leaf (some ⟨g,0,none⟩) 18 cc (ds.take 18) ap (q - 18) cp (ds.drop 18) _ (HM4.out _ HTr.out) (by omega) HR5.out HR6.out).mono ?_
       rintro e w5 ⟨rfl,hb5⟩
       go_wp2
       go_ret
       exact ⟨by rw [decide_eq_decide.2 HE.out]; rfl,keepT HBF.out hb5⟩
    ·have z3:((ng:Int) - (A:Int) != 8 * (18+h))=true:=by simp [ha]
     have HE:Hid (decide (anyP 2 y h ms ss)=false):=decide_eq_false (fun a=>a.elim (fun a=>absurd a.1 (by decide)) (fun a=>ha (by have:=a.2.2.2.1; rw [H1.out,HL.out] at this; exact this)))
     by_cases hg0:ng=0
     ·obtain rfl:A=0:=by omega
      subst hg0
      clear ha hk1 hpl hp0 hp1
      go_wp2
      go_ret
      exact ⟨by rw [HE.out]; rfl,hBB⟩
     ·obtain ⟨b,off,rfl,hbl,_⟩:=HG2.get 0 (by omega)
      clear ha hk1 hpl hp0 hp1
      go_wp2
      all_goals
       go_ret
       exact ⟨by rw [HE.out]; rfl,hBB⟩
  ·have z1:(k1 != 0)=true:=by simp [hk1]
   have HE:Hid (decide (anyP sc y h ms ss)=false):=decide_eq_false (fun a=>hk1 (a.elim (fun a=>by have:=a.2.2.1; rw [H1.out] at this; exact this) (fun a=>by have:=a.2.2.1; rw [H1.out] at this; exact this)))
   clear hk1 hpl
   go_wp2
   go_ret
   exact ⟨by rw [HE.out]; rfl,hBB⟩
 ·have HV:Hid (decide (anyP sc y h ms ss)=false):=decide_eq_false (fun a=>hp (a.elim (fun a=>.inl ⟨a.1,a.2.1⟩) (fun a=>.inr ⟨a.1,a.2.1⟩)))
  rw [decide_eq_false hp]
  go_wp2
  go_ret
  exact ⟨by rw [HV.out]; rfl,hBB⟩
end Go.Proofs.YtkdandggklpppaaGreatDoor
