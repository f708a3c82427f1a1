import Derived.Test.YtkdandggklpppaaGreatDoorFE34
set_option maxRecDepth 10000
set_option maxHeartbeats 8000000
set_option linter.unusedVariables false
namespace Go.Proofs.YtkdandggklpppaaGreatDoor
open Go.RowKit
theorem specTreeVerify_any (root h:Int)(am:Option Addr)(n c:Nat)(bs:List Int)(leaf:Int)(ae:Option Addr)(ne ce:Nat)(ez:List Int)(ap:Option Addr)(np cp:Nat)(pz:List Int)(w:World)
  (hr:Row w am n bs) (hn:n≤1000000000000) (he:RowU w ae ne ez) (hp:RowU w ap np pz) :
  Calls Tryz.prog 35 #[.int .u64 root,.int .i64 h,.slice am n c,tsv leaf ae ne ce ap np cp] w fun e w'=>e=.returned (.bool (decide (tvP root h bs leaf ez pz)))∧Below w.heap.size w w':=by
 obtain ⟨i0,hi,hz0,hz1,hz2⟩:=info_parts Tryz.infoU
 obtain ⟨wb,hwb⟩:∃ wb,wb=w.alloc (.cells #[.int .i64 leaf,.slice ae ne ce,.slice ap np cp] 76):=⟨_,rfl⟩
 have hbb:Below w.heap.size w wb:=by rw [hwb]; exact (Below.refl _ _).alloc (Nat.le_refl _) _
 have hlw:w.heap.size<wb.heap.size:=by rw [hwb]; simp
 have HXD:∀ w7,Below wb.heap.size wb w7→w7.cell? ⟨w.heap.size,0,none⟩=some (.int .i64 leaf)∧w7.cell? ⟨w.heap.size,1,none⟩=some (.slice ae ne ce)∧w7.cell? ⟨w.heap.size,2,none⟩=some (.slice ap np cp):=by
  intro w7 h7
  have hbx:w7.heap[w.heap.size]? = some (.cells #[.int .i64 leaf,.slice ae ne ce,.slice ap np cp] 76):=(h7.block _ hlw).trans (by rw [hwb]; exact heap_alloc_new w _)
  exact ⟨(cell_of_row _ w.heap.size 0 _ 76 (0,0) hbx).trans rfl,(cell_of_row _ w.heap.size 1 _ 76 (0,0) hbx).trans rfl,(cell_of_row _ w.heap.size 2 _ 76 (0,0) hbx).trans rfl⟩
 have HWB:Hid (_=_):=hwb
 clear hwb
 obtain ⟨q0,q1,q2⟩:=HXD _ (Below.refl _ _)
 have HEZ:Hid (ez.length=ne):=he.len
 have HPZ:Hid (pz.length=np):=hp.len
 rw [tsv]
 by_cases h1:0≤h∧h≤5
 ·obtain ⟨N,hN⟩:=HN.of h1.1 h1.2
  have HNP:Hid (_=_):=hN.pow.1
  have hNl:=hN.le
  obtain ⟨h10,h15⟩:=h1
  have hsh:=hN.sh
  have u1:IntKind.u64.wrap h=h:=by rw [IntKind.wrap_u64]; omega
  by_cases h2:0≤leaf∧leaf≤(N:Int) - 1
  ·by_cases h3:ne=18∧(np:Int)=h
   ·obtain ⟨rfl,h4⟩:=h3
    have h5:np≤5:=by omega
    go_enter Tryz.func35,Tryz.ntmps35
    go_upto_region 1 with fail
    rw [← HWB.out]
    clear HWB
    go_wp2_with (first
     | (go_at_call_of 28 h; refine (l1In_t h 0 5 _ ⟨h10,h15⟩).mono ?_; rintro e w2 ⟨rfl,hw⟩; have hw2:=hw.symm; subst hw2)
     | (go_at_call_of 28 leaf; refine (l1In_t leaf 0 _ _ (by first | (rw [hsh]; exact h2) | exact h2)).mono ?_; rintro e w2 ⟨rfl,hw⟩; have hw2:=hw.symm; subst hw2))
    refine (l8Digits_any am n c bs _ (hr.kept hbb) hn).mono ?_
    rintro e w3 ⟨ad,cd,rfl,hrd,hb3⟩
    have HRD:Hid (Row64 w3 ad 18 (diL (hashL bs))):=hrd
    have hoe:=ownU_empty w3
    have hbe:Below w3.heap.size w3 (w3.alloc (.cells #[] 29)):=(Below.refl _ _).alloc (Nat.le_refl _) _
    have HE:Hid (RowU w ae 18 ez):=he
    have HPW:Hid (RowU w ap np pz):=hp
    clear hrd he hp hr q0 q1 q2
    go_wp2
    go_loopw [10,11] (fun o i wr=>∃ (q cc:Nat) (ao:Option Addr),q≤18∧i=.int .i64 q∧o=.slice ao q cc∧OwnU w3.heap.size wr ao q cc ((endVs bs ez).take q)∧Below w3.heap.size w3 wr) (fun _ i _=>18 - (intOf i).toNat)
    case atStart=>exact ⟨0,0,_,Nat.zero_le _,rfl,rfl,hoe,hbe⟩
    case round =>
     obtain ⟨q,cc,ao,hq,rfl,rfl,hor,hbr⟩:=hrel
     clear hoe hbe
     by_cases hlt:q<18
     ·have hlti:(q:Int)<18:=by omega
      obtain ⟨b,off,rfl,hlb,hc0⟩:=HE.out.get q hlt
      obtain ⟨bd,offd,rfl,hlbd,hcd⟩:=HRD.out.get q hlt
      have hdb:=diL_bd (hashL bs) q
      obtain ⟨d,hd⟩:∃ d,d=(diL (hashL bs)).getD q 0:=⟨_,rfl⟩
      have hpb:=HE.out.rng q
      obtain ⟨p,hp⟩:∃ p,p=ez.getD q 0:=⟨_,rfl⟩
      have HVV:Hid (stepsN p (15 - d).toNat=endV bs ez q):=by show _=_; unfold endV; rw [hp,hd]
      rw [← hp] at hc0 hpb
      rw [← hd] at hcd hdb
      obtain ⟨hd0,hd1⟩:=hdb
      clear hp hd
      obtain ⟨m,hm⟩:∃ m,m=(15 - d).toNat:=⟨_,rfl⟩
      have hm15:m≤15:=by omega
      have HS2:Hid (IntKind.i64.wrap (15 - d)=(m:Int)):=by show _=_; rw [IntKind.wrap_i64]; omega
      rw [← hm] at HVV
      clear hm
      have HXX:∀ w7,Below w3.heap.size w3 w7→w7.cell? ⟨w.heap.size,1,none⟩=some (.slice (some ⟨b,off,none⟩) 18 ce)∧w7.cell? ⟨b,off+q,none⟩=some (.int .u64 p)∧w7.cell? ⟨bd,offd+q,none⟩=some (.int .i64 d):=fun w7 h7 =>
       ⟨(HXD _ (keepT hb3 h7)).2.1,((keepT hbb (keepT hb3 h7)).cell (p:=⟨b,off+q,none⟩) hlb).trans hc0,(h7.cell (p:=⟨bd,offd+q,none⟩) hlbd).trans hcd⟩
      have hdr:Below wr.heap.size wr wr.drew:=(Below.refl _ _).drew
      have T0:=HXX _ hbr
      have T1:=HXX _ (keepT hbr hdr)
      have HOR:Hid (∀ w7,Below wr.heap.size wr w7→w7.ownsRow w3.heap.size 29 1 (.slice ao q cc) q (((endVs bs ez).take q).map (Value.int .u64))):=fun w7 h7=>(hor.kept h7).row
      have hws:=hbr.size
      clear hc0 hcd hor
      go_upto_region 8 with fail
      go_region_held_law (fun w7=>w7.cell? ⟨w.heap.size,1,none⟩=some (.slice (some ⟨b,off,none⟩) 18 ce)∧w7.cell? ⟨b,off+q,none⟩=some (.int .u64 p)∧w7.cell? ⟨bd,offd+q,none⟩=some (.int .i64 d)) (first | assumption | exact T0 | exact T1 | exact T2 | exact T3 | exact T4)
       (first
        | (go_at_call 68; rw [HS2.out]; refine (l8Steps_any p m _ hpb (by omega)).mono ?_; rintro e w5 ⟨rfl,hb5⟩; rw [HVV.out]; have hb57:=keepT hdr hb5; have T2:=HXX _ (keepT hbr hb57); have hal:Below wr.heap.size wr (w5.alloc (.cells #[.int .u64 (endV bs ez q)] 29)):=hb57.alloc hb57.size _; have T3:=HXX _ (keepT hbr hal); have hor3:=HOR.out _ hal; have hcl:=cell_oneU w5 (endV bs ez q))
        | (refine step_append_ownT rfl (.tmp 48) (.tmp 60) 74 rfl w3.heap.size 29 i0 _ 1 8 Tryz.underlying74 hi hz0 hz1 hz2 rfl (by decide) _ q _ rfl hor3 ⟨w5.heap.size,0,none⟩ 1 1 ([endV bs ez q].map (Value.int .u64)) rfl rfl hcl (ints_oneCell .u64 [endV bs ez q]) (by unfold maxLen; omega) (by omega) (by have:=hal.size; omega) ?_; intro v4 w4 hv4 hg4; have hbr4:Below w3.heap.size w3 w4:=(keepT hbr hal).grown hg4 (by have:=(keepT hbr hal).size; exact this) (fun k hk=>(hor3.lt k hk).1); have T4:=HXX _ hbr4))
      all_goals
       have e1:((endVs bs ez).take q).map (Value.int .u64)++[endV bs ez q].map (Value.int .u64)=((endVs bs ez).take (q+1)).map (Value.int .u64):=by rw [take_snoc (endVs bs ez) q (by rw [endVs_len]; exact hlt),endVs_get bs ez q hlt,List.map_append]
       rw [e1] at hv4
       obtain ⟨a4,c4,rfl,ho4⟩:=ownU_appended (u64_take (endVs_bd bs ez HE.out.rng) _) hv4
       go_wp2
       go_roundw
       case rel=>exact ⟨q+1,c4,a4,by omega,by go_num,rfl,ho4,hbr4⟩
       case measure=>simp [intOf]; omega
     ·obtain rfl:q=18:=by omega
      have HR:Hid (RowU wr ao 18 (endVs bs ez)):=by
       have:=hor.toRow
       rwa [List.take_of_length_le (by rw [endVs_len]; exact Nat.le_refl _)] at this
      have hB2r:=keepT hb3 hbr
      clear hor
      go_wp2_with fail
      refine (l8Leaf_any ao 18 cc (endVs bs ez) _ HR.out (by decide)).mono ?_
      rintro e w5 ⟨rfl,hb5⟩
      have hB5:=keepT hB2r hb5
      obtain ⟨L,hL⟩:∃ L,L=leaf.toNat:=⟨_,rfl⟩
      have hLF:leaf=(L:Int):=by omega
      have hL1:L≤1000:=by omega
      have HV:Hid (decide (tvP root h bs leaf ez pz)=(climb (hashD leW (endVs bs ez)) L pz np == root)):=by
       show _=_
       by_cases hc:climb (hashD leW (endVs bs ez)) L pz np=root
       ·rw [decide_eq_true,hc]
        ·simp
        ·exact ⟨⟨h10,h15⟩,by rw [← HNP.out]; exact h2,HEZ.out,by rw [HPZ.out]; exact h4,by rw [HPZ.out,← hL]; exact hc⟩
       ·rw [decide_eq_false]
        ·simp [hc]
        ·intro hh
         apply hc
         have:=hh.2.2.2.2
         rw [HPZ.out,← hL] at this
         exact this
      obtain ⟨v0,hv0⟩:∃ v0,v0=hashD leW (endVs bs ez):=⟨_,rfl⟩
      have HVB:Hid (U64 v0):=by rw [hv0]; exact hashD_bd _ _
      rw [← hv0] at HV ⊢
      clear hL hv0
      obtain ⟨q0,q1,q2⟩:=HXD _ hB5
      rw [hLF] at q0
      go_wp2
      clear q0 q1 q2
      go_loopw [12,13,14] (fun d l i wx=>∃ (k m:Nat) (x:Int),k≤np∧i=.int .i64 k∧d=.int .u64 x∧l=.int .i64 m∧m≤1000∧Hid (m=L / 2 ^ k)∧Hid (x=climb v0 L pz k)∧Below wb.heap.size wb wx) (fun _ _ i _=>np - (intOf i).toNat)
      case atStart=>exact ⟨0,L,v0,Nat.zero_le _,rfl,rfl,rfl,hL1,by show _=_; simp,rfl,hB5⟩
      case round =>
       obtain ⟨k,m,x,hk,rfl,rfl,rfl,hm,HM,HX,hbx⟩:=hrel
       obtain ⟨q0,q1,q2⟩:=HXD _ hbx
       by_cases hkl:k<np
       ·have hlti:(k:Int)<(np:Int):=by omega
        obtain ⟨b,off,rfl,hlb,hc0⟩:=HPW.out.get k hkl
        have hcell:=((keepT hbb hbx).cell (p:=⟨b,off+k,none⟩) hlb).trans hc0
        have hpb:=HPW.out.rng k
        obtain ⟨p,hp⟩:∃ p,p=pz.getD k 0:=⟨_,rfl⟩
        have HPP:Hid (pz.getD k 0=p):=hp.symm
        rw [← hp] at hcell hpb
        have hxb:U64 x:=by rw [HX.out]; exact climb_bd v0 HVB.out L pz k
        have HM2:Hid (((m / 2:Nat):Int)=(m:Int) / 2):=by show _=_; omega
        have HM3:Hid (m / 2=L / 2 ^ (k+1)):=by show _=_; rw [HM.out,Nat.pow_succ,Nat.div_div_eq_div_mul]
        have t1:(m:Int).tdiv 2=(m:Int) / 2:=Int.tdiv_eq_ediv_of_nonneg (by omega)
        have t2:(m:Int).tmod 2=(m:Int) % 2:=Int.tmod_eq_emod_of_nonneg (by omega)
        clear hc0 hp
        by_cases hev:m % 2=0
        ·have hmi:(m:Int) % 2=0:=by omega
         have HN2:Hid (hashD ndW [x,p]=climb v0 L pz (k+1)):=by show _=_; rw [climb,← HM.out,if_pos hev,← HX.out,HPP.out]
         go_wp2_with fail
         refine (l8Node_any x p _ hxb hpb).mono ?_
         rintro e w6 ⟨rfl,hb6⟩
         rw [HN2.out]
         go_wp2
         rw [← HM2.out]
         go_roundw
         case rel=>exact ⟨k+1,m / 2,_,by omega,by go_num,rfl,rfl,by omega,HM3,rfl,keepT hbx hb6⟩
         case measure=>simp [intOf]; omega
        ·have hmi:(m:Int) % 2=1:=by omega
         have HN2:Hid (hashD ndW [p,x]=climb v0 L pz (k+1)):=by show _=_; rw [climb,← HM.out,if_neg hev,← HX.out,HPP.out]
         go_wp2_with fail
         refine (l8Node_any p x _ hpb hxb).mono ?_
         rintro e w6 ⟨rfl,hb6⟩
         rw [HN2.out]
         go_wp2
         rw [← HM2.out]
         go_roundw
         case rel=>exact ⟨k+1,m / 2,_,by omega,by go_num,rfl,rfl,by omega,HM3,rfl,keepT hbx hb6⟩
         case measure=>simp [intOf]; omega
       ·obtain rfl:k=np:=by omega
        go_wp2
        go_ret
        exact ⟨by rw [HV.out,← HX.out]; rfl,keepT hbb hbx⟩
   ·have HV:Hid (decide (tvP root h bs leaf ez pz)=false):=decide_eq_false (fun hh=>h3 ⟨by rw [← HEZ.out]; exact hh.2.2.1,by rw [← HPZ.out]; exact hh.2.2.2.1⟩)
    by_cases h6:ne=18
    ·subst h6
     have h7:¬ ((np:Int)=h):=fun e=>h3 ⟨rfl,e⟩
     go_enter Tryz.func35,Tryz.ntmps35
     go_upto_region 1 with fail
     rw [← HWB.out]
     clear HWB
     go_wp2_with (first
      | (go_at_call_of 28 h; refine (l1In_t h 0 5 _ ⟨h10,h15⟩).mono ?_; rintro e w2 ⟨rfl,hw⟩; have hw2:=hw.symm; subst hw2)
      | (go_at_call_of 28 leaf; refine (l1In_t leaf 0 _ _ (by first | (rw [hsh]; exact h2) | exact h2)).mono ?_; rintro e w2 ⟨rfl,hw⟩; have hw2:=hw.symm; subst hw2))
     go_ret
     exact ⟨by rw [HV.out]; rfl,hbb⟩
    ·have h7:¬ ((ne:Int)=18):=by omega
     go_enter Tryz.func35,Tryz.ntmps35
     go_upto_region 1 with fail
     rw [← HWB.out]
     clear HWB
     go_wp2_with (first
      | (go_at_call_of 28 h; refine (l1In_t h 0 5 _ ⟨h10,h15⟩).mono ?_; rintro e w2 ⟨rfl,hw⟩; have hw2:=hw.symm; subst hw2)
      | (go_at_call_of 28 leaf; refine (l1In_t leaf 0 _ _ (by first | (rw [hsh]; exact h2) | exact h2)).mono ?_; rintro e w2 ⟨rfl,hw⟩; have hw2:=hw.symm; subst hw2))
     go_ret
     exact ⟨by rw [HV.out]; rfl,hbb⟩
  ·have HV:Hid (decide (tvP root h bs leaf ez pz)=false):=decide_eq_false (fun hh=>h2 (by rw [HNP.out]; exact hh.2.1))
   go_enter Tryz.func35,Tryz.ntmps35
   go_upto_region 1 with fail
   rw [← HWB.out]
   clear HWB
   go_wp2_with (first
    | (go_at_call_of 28 h; refine (l1In_t h 0 5 _ ⟨h10,h15⟩).mono ?_; rintro e w2 ⟨rfl,hw⟩; have hw2:=hw.symm; subst hw2)
    | (go_at_call_of 28 leaf; refine (l1In_f leaf 0 _ _ (by first | (rw [hsh]; exact h2) | exact h2)).mono ?_; rintro e w2 ⟨rfl,hw⟩; have hw2:=hw.symm; subst hw2))
   go_ret
   exact ⟨by rw [HV.out]; rfl,hbb⟩
 ·have HV:Hid (decide (tvP root h bs leaf ez pz)=false):=decide_eq_false (fun hh=>h1 hh.1)
  go_enter Tryz.func35,Tryz.ntmps35
  go_upto_region 1 with fail
  rw [← HWB.out]
  clear HWB
  go_wp2_with (first
   | (go_at_call_of 28 h; refine (l1In_f h 0 5 _ h1).mono ?_; rintro e w2 ⟨rfl,hw⟩; have hw2:=hw.symm; subst hw2))
  go_ret
  exact ⟨by rw [HV.out]; rfl,hbb⟩
end Go.Proofs.YtkdandggklpppaaGreatDoor
