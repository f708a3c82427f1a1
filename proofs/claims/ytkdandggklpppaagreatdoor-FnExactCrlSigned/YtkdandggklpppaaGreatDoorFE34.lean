import Derived.Test.YtkdandggklpppaaGreatDoorFE33
set_option maxRecDepth 10000
set_option maxHeartbeats 8000000
set_option linter.unusedVariables false
namespace Go.Proofs.YtkdandggklpppaaGreatDoor
open Go.RowKit
theorem run_index_vA (w:World)(l:List Int)(hl:l.length=18)(k:Nat)(hk:k<18):(Instr.index 199 (.agg (vA l)) (.int .i64 (k:Int))).run Tryz.prog w=.ok (.int .i64 (l.getD k 0)) w:=by
 have h1:0≤(k:Int)∧(k:Int)<((18:Nat):Int):=by omega
 have h3:(vA l)[k]? = some (.int .i64 (l.getD k 0)):=by rw [vA_get,List.getElem?_eq_getElem (by omega)]; simp [show k<l.length by omega]
 simp [Instr.index,run_underlying Tryz.underlying199,asIntOf,h1,part,go_sem]
 rw [if_pos hk,h3]
 simp
def tsv (leaf:Int)(ae:Option Addr)(ne ce:Nat)(ap:Option Addr)(np cp:Nat):Value:=.agg #[.int .i64 leaf,.slice ae ne ce,.slice ap np cp]
def endV (bs ez:List Int)(i:Nat):Int:=stepsN (ez.getD i 0) (15 - (diL (hashL bs)).getD i 0).toNat
def endVs (bs ez:List Int):List Int:=(List.range 18).map (endV bs ez)
theorem endVs_len (bs ez:List Int):(endVs bs ez).length=18:=by simp [endVs]
theorem endVs_get (bs ez:List Int)(d:Nat)(h:d<18):(endVs bs ez).getD d 0=endV bs ez d:=by simp [endVs,h]
theorem endVs_bd (bs ez:List Int)(hz:∀ k,U64 (ez.getD k 0)):∀ k,U64 ((endVs bs ez).getD k 0):=by
 intro k
 by_cases h:k<18
 ·rw [endVs_get bs ez k h]; exact stepsN_bd _ (hz k) _
 ·rw [List.getD_eq_getElem?_getD,List.getElem?_eq_none (by rw [endVs_len]; omega)]; simp [U64]
def tvP (root h:Int)(bs:List Int)(leaf:Int)(ez pz:List Int):Prop:=(0≤h∧h≤5)∧(0≤leaf∧leaf≤((2 ^ h.toNat:Nat):Int) - 1)∧ez.length=18∧(pz.length:Int)=h∧climb (hashD leW (endVs bs ez)) leaf.toNat pz pz.length=root
instance (root h:Int) (bs:List Int) (leaf:Int) (ez pz:List Int):Decidable (tvP root h bs leaf ez pz):=by unfold tvP; infer_instance
theorem implTreeVerify_any (root h:Int)(am:Option Addr)(n c:Nat)(bs:List Int)(leaf:Int)(ae:Option Addr)(ne ce:Nat)(ez:List Int)(ap:Option Addr)(np cp:Nat)(pz:List Int)(w:World)
  (hr:Row w am n bs) (hn:n≤1000000000000) (he:RowU w ae ne ez) (hp:RowU w ap np pz) :
  Calls Tryz.prog 169 #[.int .u64 root,.int .i64 h,.slice am n c,tsv leaf ae ne ce ap np cp] w fun e w'=>e=.returned (.bool (decide (tvP root h bs leaf ez pz)))∧Below w.heap.size w w':=by
 obtain ⟨i0,hi,hz0,hz1,hz2⟩:=info_parts Tryz.infoU
 obtain ⟨wb,hwb⟩:∃ wb,wb=w.alloc (.cells #[.int .i64 leaf,.slice ae ne ce,.slice ap np cp] 76):=⟨_,rfl⟩
 have hbb:Below w.heap.size w wb:=by rw [hwb]; exact (Below.refl _ _).alloc (Nat.le_refl _) _
 have hlw:w.heap.size<wb.heap.size:=by rw [hwb]; simp
 have HXD:∀ w7,Below wb.heap.size wb w7→w7.cell? ⟨w.heap.size,0,none⟩=some (.int .i64 leaf)∧w7.cell? ⟨w.heap.size,1,none⟩=some (.slice ae ne ce)∧w7.cell? ⟨w.heap.size,2,none⟩=some (.slice ap np cp):=by
  intro w7 h7
  have hbx:w7.heap[w.heap.size]? = some (.cells #[.int .i64 leaf,.slice ae ne ce,.slice ap np cp] 76):=(h7.block _ hlw).trans (by rw [hwb]; exact heap_alloc_new w _)
  exact ⟨(cell_of_row _ w.heap.size 0 _ 76 (0,0) hbx).trans rfl,(cell_of_row _ w.heap.size 1 _ 76 (0,0) hbx).trans rfl,(cell_of_row _ w.heap.size 2 _ 76 (0,0) hbx).trans rfl⟩
 have HWB:Hid (_=_):=hwb
 clear hwb
 have hdr:Below wb.heap.size wb wb.drew:=(Below.refl _ _).drew
 have SS:=HXD _ (Below.refl _ _)
 have SS1:=HXD _ hdr
 have HEZ:Hid (ez.length=ne):=he.len
 have HPZ:Hid (pz.length=np):=hp.len
 rw [tsv]
 by_cases h1:0≤h∧h≤5
 ·obtain ⟨N,hN⟩:=HN.of h1.1 h1.2
  have HNP:Hid (_=_):=hN.pow.1
  have hNl:=hN.le
  obtain ⟨h10,h15⟩:=h1
  have hsh:=hN.sh
  by_cases h2:0≤leaf∧leaf≤(N:Int) - 1
  ·go_enter Tryz.func169,Tryz.ntmps169
   go_upto_region 1 with fail
   rw [← HWB.out]
   clear HWB
   obtain ⟨q0,q1,q2⟩:=SS
   go_quiet (first
     | (go_at_call_of 46 h; refine Calls.quiet_of_same (inBounds_t h 0 5 _ ⟨h10,h15⟩))
     | (go_at_call_of 46 leaf; refine Calls.quiet_of_same (inBounds_t leaf 0 ((N:Int) - 1) _ h2)))
   have hb2:Below wb.heap.size wb (wb.drewN nq):=below_dn (Below.refl _ _) _
   obtain ⟨w2,hw2⟩:∃ w2,w2=wb.drewN nq:=⟨_,rfl⟩
   rw [← hw2] at hb2 ⊢
   clear hw2 q0 q1 q2 SS1
   by_cases h3:ne=18∧(np:Int)=h
   ·obtain ⟨rfl,h4⟩:=h3
    have h5:np≤5:=by omega
    obtain ⟨q0,q1,q2⟩:=HXD _ hb2
    go_wp2_with (first | (at_make; refine wpList_make_full _ rfl _ _ 74 rfl w2.heap.size 29 i0 _ 1 Tryz.underlying74 hi hz0 hz1 _ _ _ _ 18 rfl rfl rfl rfl (by rw [hz2]; decide) (by unfold maxLen; decide) (by exact Nat.le_refl _) ?_; intro w3 hown hgrow))
    have hbl:Below w2.heap.size w2 w3:=(Below.refl _ _).grown hgrow (Nat.le_refl _) (by simp)
    have HST:Hid (OwnU w2.heap.size w3 (some ⟨w2.heap.size,0,none⟩) 18 18 (half (endVs bs ez) 0)):=by
     show OwnU _ _ _ _ _ _
     rw [half_zero,endVs_len]
     exact ⟨madeU hown,u64_rep 18⟩
    have hB3:Below w.heap.size w w3:=keepT hbb (keepT hb2 hbl)
    clear hgrow hi hz0 hz1 hz2 hown q0 q1 q2
    refine (signedDigits_any am n c bs _ (hr.kept hB3) hn).mono ?_
    rintro e w4 ⟨rfl,hb4⟩
    have hb34:=keepT hbl hb4
    have HST4:Hid (_):=HST.out.kept hb4
    have HE:Hid (RowU w ae 18 ez):=he
    have HPW:Hid (RowU w ap np pz):=hp
    obtain ⟨dl,hdl⟩:∃ dl,dl=diL (hashL bs):=⟨_,rfl⟩
    have HDL:Hid (dl=diL (hashL bs)):=hdl
    rw [← hdl]
    clear hdl HST he hp hr hb4 hbl hB3
    have hb24:=keepT hb2 hb34
    go_wp2
    go_loopw [10,11,38] (fun _ _ i wr=>∃ k:Nat,k≤18∧i=.int .i64 k∧Hid (OwnU w2.heap.size wr (some ⟨w2.heap.size,0,none⟩) 18 18 (half (endVs bs ez) k))∧Below w2.heap.size w2 wr) (fun _ _ i _=>18 - (intOf i).toNat)
    case atStart=>exact ⟨0,by decide,rfl,HST4,hb34⟩
    case round =>
     obtain ⟨k,hk,rfl,HO,hbr⟩:=hrel
     by_cases hlt:k<18
     ·have hlti:(k:Int)<18:=by omega
      have hix:∀ w',(Instr.index 199 (.agg (vA dl)) (.int .i64 (k:Int))).run Tryz.prog w'=.ok (.int .i64 (dl.getD k 0)) w':=fun w'=>run_index_vA w' dl (by rw [HDL.out,diL_len]) k hlt
      have hdb:0≤dl.getD k 0∧dl.getD k 0≤15:=by rw [HDL.out]; exact diL_bd _ k
      obtain ⟨d,hd⟩:∃ d,d=dl.getD k 0:=⟨_,rfl⟩
      rw [← hd] at hix hdb
      obtain ⟨hd0,hd1⟩:=hdb
      obtain ⟨b,off,rfl,hlb,hc0⟩:=HE.out.get k hlt
      obtain ⟨q0,q1,q2⟩:=HXD _ (keepT hb2 hbr)
      have hbrw:=keepT hbb (keepT hb2 hbr)
      have hcell:wr.cell? ⟨b,off+k,none⟩=some (.int .u64 (ez.getD k 0)):=(hbrw.cell (p:=⟨b,off+k,none⟩) hlb).trans hc0
      have hpb:=HE.out.rng k
      obtain ⟨p,hp⟩:∃ p,p=ez.getD k 0:=⟨_,rfl⟩
      have HVV:Hid (stepsN p (15 - d).toNat=endV bs ez k):=by show _=_; unfold endV; rw [hp,hd,HDL.out]
      rw [← hp] at hcell hpb
      clear hp hd hc0 HST4 hb34 hb24
      have hsub:wrap64 (15 - d)=((15 - d).toNat:Int):=by unfold wrap64; omega
      have hsub2:15 - d=((15 - d).toNat:Int):=by omega
      obtain ⟨m,hm⟩:∃ m,m=(15 - d).toNat:=⟨_,rfl⟩
      have hm15:m≤15:=by omega
      rw [← hm] at HVV hsub hsub2
      have HS2:Hid (15 - d=(m:Int)):=hsub2
      clear hm hsub2
      clear hsub
      go_wp2_with fail
      rw [HS2.out]
      clear HS2
      refine (stepped_any p m _ hpb (by omega)).mono ?_
      rintro e w5 ⟨rfl,hb5⟩
      rw [HVV.out]
      have hor:=HO.out.kept hb5
      have hB5:=keepT hbr hb5
      have f0:w5.frozen? ⟨w2.heap.size,k,none⟩=false:=hor.row.frozenAt _
      have hvl:((half (endVs bs ez) k).map (Value.int .u64)).length=18 * 1:=hor.row.1
      obtain ⟨y0,hy0⟩:∃ y,w5.cell? ⟨w2.heap.size,k,none⟩=some y:=⟨_,(hor.row.cellAt _ (by omega)).trans (List.getElem?_eq_getElem (by omega))⟩
      have hs:=(hor.row.stored k (.int .u64 (endV bs ez k))).1
      have e1:=half_set (endVs bs ez) k (by rw [endVs_len]; exact hlt)
      rw [endVs_get bs ez k hlt] at e1
      rw [← List.map_set,e1] at hs
      obtain ⟨vv,hvv⟩:∃ vv,vv=endV bs ez k:=⟨_,rfl⟩
      rw [← hvv] at hs ⊢
      clear hvv
      have HNX:Hid (OwnU w2.heap.size (w5.setCell ⟨w2.heap.size,k,none⟩ (.int .u64 vv)) (some ⟨w2.heap.size,0,none⟩) 18 18 (half (endVs bs ez) (k+1))):=⟨hs,u64_half (endVs_bd bs ez HE.out.rng) _⟩
      have HBN:Hid (Below w2.heap.size w2 (w5.setCell ⟨w2.heap.size,k,none⟩ (.int .u64 vv))):=hB5.setCell (Nat.le_refl _) _
      clear hs hor hB5 hb5 hbr HO hvl hbrw e1 q0 q1 q2 hcell hix HVV
      go_wp2
      go_roundw
      case rel=>exact ⟨k+1,by omega,by go_num,HNX,HBN.out⟩
      case measure=>simp [intOf]; omega
     ·obtain rfl:k=18:=by omega
      have HR:Hid (RowU wr (some ⟨w2.heap.size,0,none⟩) 18 (endVs bs ez)):=by
       have:=HO.out.toRow
       have e:=half_all (endVs bs ez)
       rw [endVs_len] at e
       rwa [e] at this
      have HLE:Hid (strL ⟨#[108,101,97,102]⟩=leW):=by show _=_; decide
      have hB2r:=keepT hb2 hbr
      have HPR:Hid (∀ w7,Below wr.heap.size wr w7→RowU w7 ap np pz):=fun w7 h7=>(HPW.out.kept (keepT hbb hB2r)).kept h7
      have hl0:leaf=(leaf.toNat:Int):=by omega
      obtain ⟨L,hL⟩:∃ L,L=leaf.toNat:=⟨_,rfl⟩
      have HLF:Hid (leaf=(L:Int)):=by show _=_; rw [hL]; exact hl0
      have hL1:L≤1000:=by omega
      have HV:Hid (decide (tvP root h bs leaf ez pz)=(climb (hashD leW (endVs bs ez)) L pz np == root)):=by
       show _=_
       by_cases hc:climb (hashD leW (endVs bs ez)) L pz np=root
       ·rw [decide_eq_true,hc]
        ·simp
        ·exact ⟨⟨h10,h15⟩,by rw [← HNP.out]; exact h2,HEZ.out,by rw [HPZ.out]; exact h4,by rw [HPZ.out,← hL]; exact hc⟩
       ·rw [decide_eq_false]
        ·simp [hc]
        ·intro hh
         apply hc
         have:=hh.2.2.2.2
         rw [HPZ.out,← hL] at this
         exact this
      clear hL hl0
      have hdr3:Below wr.heap.size wr wr.drew:=(Below.refl _ _).drew
      have T0:=HXD _ hB2r
      have T1:=HXD _ (keepT hB2r hdr3)
      clear HO HST4 hb34 hb24
      go_upto_region 11 with fail
      go_region_held_law (fun w7=>w7.cell? ⟨w.heap.size,0,none⟩=some (.int .i64 leaf)∧w7.cell? ⟨w.heap.size,1,none⟩=some (.slice ae 18 ce)∧w7.cell? ⟨w.heap.size,2,none⟩=some (.slice ap np cp)) (first | assumption | exact T0 | exact T1 | exact T2 | exact T3)
       (first
        | (go_at_call 173; refine (hashDigests_any _ _ 18 18 (endVs bs ez) _ (HR.out.kept hdr3) (by decide) (by decide)).mono ?_; rintro e w5 ⟨rfl,hb5⟩; rw [HLE.out]; have hb57:=keepT hdr3 hb5; have T2:=HXD _ (keepT hB2r hb57))
        | (go_at_call 172; rw [HLF.out]; refine (rootFrom_any (hashD leW (endVs bs ez)) L ap np cp pz _ (hashD_bd _ _) hL1 (HPR.out _ hb57) (by omega)).mono ?_; rintro e w6 ⟨rfl,hb6⟩; have hb67:=keepT hb57 hb6; have T3:=HXD _ (keepT hB2r hb67)))
      all_goals
       go_wp2
       go_ret
       exact ⟨by rw [HV.out]; rfl,keepT hbb (keepT hB2r hb67)⟩
   ·have HV:Hid (decide (tvP root h bs leaf ez pz)=false):=decide_eq_false (fun hh=>h3 ⟨by rw [← HEZ.out]; exact hh.2.2.1,by rw [← HPZ.out]; exact hh.2.2.2.1⟩)
    obtain ⟨q0,q1,q2⟩:=HXD _ hb2
    by_cases h6:ne=18
    ·subst h6
     have h7:¬ ((np:Int)=h):=fun e=>h3 ⟨rfl,e⟩
     go_wp2
     go_ret
     exact ⟨by rw [HV.out]; rfl,keepT hbb hb2⟩
    ·have h7:¬ ((ne:Int)=18):=by omega
     go_wp2
     go_ret
     exact ⟨by rw [HV.out]; rfl,keepT hbb hb2⟩
  ·have HV:Hid (decide (tvP root h bs leaf ez pz)=false):=decide_eq_false (fun hh=>h2 (by rw [HNP.out]; exact hh.2.1))
   go_enter Tryz.func169,Tryz.ntmps169
   go_upto_region 1 with fail
   rw [← HWB.out]
   clear HWB
   obtain ⟨q0,q1,q2⟩:=SS
   go_quiet (first
     | (go_at_call_of 46 h; refine Calls.quiet_of_same (inBounds_t h 0 5 _ ⟨h10,h15⟩))
     | (go_at_call_of 46 leaf; refine Calls.quiet_of_same (inBounds_f leaf 0 ((N:Int) - 1) _ h2)))
   go_wp2
   go_ret
   exact ⟨by rw [HV.out]; rfl,below_dn hbb _⟩
 ·have HV:Hid (decide (tvP root h bs leaf ez pz)=false):=decide_eq_false (fun hh=>h1 hh.1)
  go_enter Tryz.func169,Tryz.ntmps169
  go_upto_region 1 with fail
  rw [← HWB.out]
  clear HWB
  obtain ⟨q0,q1,q2⟩:=SS
  go_quiet ((go_at_call 46; refine Calls.quiet_of_same (inBounds_f h 0 5 _ h1)))
  go_wp2
  go_ret
  exact ⟨by rw [HV.out]; rfl,below_dn hbb _⟩
end Go.Proofs.YtkdandggklpppaaGreatDoor
