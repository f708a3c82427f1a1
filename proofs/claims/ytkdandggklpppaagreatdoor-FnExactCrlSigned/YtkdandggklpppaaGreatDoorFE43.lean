import Derived.Test.YtkdandggklpppaaGreatDoorFE36
import Derived.Test.YtkdandggklpppaaGreatDoorFE42
set_option maxRecDepth 10000
set_option maxHeartbeats 8000000
set_option linter.unusedVariables false
namespace Go.Proofs.YtkdandggklpppaaGreatDoor
open Go.RowKit
theorem or8 (m x:Int)(hm:0≤m)(hm':m<72057594037927936)(hx:0≤x)(hx':x<256):bits .or .u64 (m * 256) x=m * 256+x :=
 bits_join .u64 64 (by decide) wraps_u64' 8 (m * 256) x (by omega) (by omega) (by omega) hx hx' (by omega)
def wdK (bs:List Int)(off:Nat):Nat→Int
 | 0=>0
 | k+1=>wdK bs off k * 256+bs.getD (off+k) 0
theorem wdK_bd (bs:List Int)(hb:∀ k,0≤bs.getD k 0∧bs.getD k 0≤255)(off k:Nat):0≤wdK bs off k∧wdK bs off k<(256:Int) ^ k:=by
 induction k with
 | zero=>simp [wdK]
 | succ k ih =>
  have:=hb (off+k)
  rw [wdK,Int.pow_succ]
  omega
theorem wdK_8 (bs:List Int)(hb:∀ k,0≤bs.getD k 0∧bs.getD k 0≤255)(off:Nat):U64 (wdK bs off 8):=by
 have:=wdK_bd bs hb off 8
 unfold U64
 omega
theorem wdK_lt (bs:List Int)(hb:∀ k,0≤bs.getD k 0∧bs.getD k 0≤255)(off k:Nat)(hk:k<8):0≤wdK bs off k∧wdK bs off k<72057594037927936:=by
 have h1:=wdK_bd bs hb off k
 refine ⟨h1.1,?_⟩
 have h2:(256:Int) ^ k≤72057594037927936:=by
  match k,hk with
  | 0,_ | 1,_ | 2,_ | 3,_ | 4,_ | 5,_ | 6,_ | 7,_=>decide
 omega
theorem l8Word_any (a:Option Addr)(n c:Nat)(bs:List Int)(w:World)(h:Row w a n bs)(hn:8≤n)(hn2:n≤9223372036854775807) :
  Calls Tryz.prog 34 #[.slice a n c] w fun e w'=>e=.returned (.int .u64 (wdK bs 0 8))∧w'=w:=by
 have H0:Hid (Row w a n bs):=h
 clear h
 go_enter Tryz.func34,Tryz.ntmps34
 go_wp2
 go_loop [3,4] (fun x i=>∃ (k:Nat) (y:Int),k≤8∧i=.int .i64 k∧x=.int .u64 y∧Hid (y=wdK bs 0 k)) (fun _ i=>8 - (intOf i).toNat)
 case atStart=>exact ⟨0,0,by decide,rfl,rfl,rfl⟩
 case round =>
  obtain ⟨k,y,hk,rfl,rfl,HY⟩:=hrel
  by_cases hlt:k<8
  ·have hlti:(k:Int)<8:=by omega
   have hlt2:(k:Int)<(n:Int):=by omega
   obtain ⟨b,off,rfl,hlb,hc⟩:=H0.out.get k (by omega)
   have hxb:=H0.out.byte k
   obtain ⟨x,hx⟩:∃ x,x=bs.getD k 0:=⟨_,rfl⟩
   rw [← hx] at hc hxb
   obtain ⟨hx0,hx1⟩:=hxb
   have hy:=wdK_lt bs H0.out.byte 0 k hlt
   rw [← show y=wdK bs 0 k from HY.out] at hy
   obtain ⟨hy0,hy1⟩:=hy
   have hor:=or8 y x hy0 hy1 hx0 (by omega)
   have HN:Hid (y * 256+x=wdK bs 0 (k+1)):=by show _=_; rw [wdK,HY.out,hx,Nat.zero_add]
   clear hx
   go_wp2
   refine ⟨⟨k+1,y * 256+x,by omega,by go_num,rfl,HN⟩,by simp [intOf]; omega⟩
  ·obtain rfl:k=8:=by omega
   go_wp2
   go_ret
   exact ⟨by rw [HY.out]; rfl,rfl⟩
def dgs (bs:List Int)(n:Nat):List Int:=(List.range n).map fun i=>wdK bs (8 * i) 8
theorem dgs_len (bs:List Int)(n:Nat):(dgs bs n).length=n:=by simp [dgs]
theorem dgs_get (bs:List Int)(n i:Nat)(h:i<n):(dgs bs n).getD i 0=wdK bs (8 * i) 8:=by simp [dgs,h]
theorem dgs_bd (bs:List Int)(hb:∀ k,0≤bs.getD k 0∧bs.getD k 0≤255)(n:Nat):∀ k,U64 ((dgs bs n).getD k 0):=by
 intro k
 by_cases h:k<n
 ·rw [dgs_get bs n k h]; exact wdK_8 bs hb _
 ·rw [List.getD_eq_getElem?_getD,List.getElem?_eq_none (by rw [dgs_len]; omega)]; simp [U64]
theorem half_keep (zs:List Int)(k:Nat)(hk:k<zs.length):(half zs k).set k 0=half zs k:=by
 apply List.ext_getElem?
 intro i
 rw [List.getElem?_set]
 by_cases e:k=i
 ·subst e
  rw [if_pos rfl]
  unfold half
  rw [List.getElem?_append_right (by simp; omega),List.getElem?_replicate]
  simp [List.length_take,Nat.min_eq_left (Nat.le_of_lt hk)]
 ·rw [if_neg e]
theorem readDigests_any (a:Option Addr)(n c:Nat)(bs:List Int)(w:World)(h:Row w a n bs)(hn:n≤1000000)(hc:n≤c) :
  Calls Tryz.prog 168 #[.slice a n c] w fun e w'=>∃ ar,e=.returned (.slice ar (n / 8) (n / 8))∧OwnU w.heap.size w' ar (n / 8) (n / 8) (dgs bs (n / 8))∧Below w.heap.size w w':=by
 obtain ⟨i0,hi,hz0,hz1,hz2⟩:=info_parts Tryz.infoU
 have H0:Hid (Row w a n bs):=h
 have HL:Hid (bs.length=n):=h.len
 clear h
 obtain ⟨m,hm⟩:∃ m,m=n / 8:=⟨_,rfl⟩
 have HM:Hid (m=n / 8):=hm
 have hmi:(n:Int) / 8=(m:Int):=by omega
 have hm8:8 * m≤n:=by omega
 rw [← hm]
 clear hm
 have t1:(n:Int).tdiv 8=(m:Int):=by rw [Int.tdiv_eq_ediv_of_nonneg (by omega)]; exact hmi
 go_enter Tryz.func168,Tryz.ntmps168
 go_wp2_with (first | (at_make; refine wpList_make_full _ rfl _ _ 74 rfl w.heap.size 29 i0 _ 1 Tryz.underlying74 hi hz0 hz1 _ _ _ _ m rfl rfl rfl rfl (by rw [hz2]; omega) (by unfold maxLen; omega) (by exact Nat.le_refl _) ?_; intro w2 hown hgrow))
 have hbl:Below w.heap.size w w2:=(Below.refl _ _).grown hgrow (Nat.le_refl _) (by simp)
 have HST:Hid (OwnU w.heap.size w2 (some ⟨w.heap.size,0,none⟩) m m (half (dgs bs m) 0)):=by
  show OwnU _ _ _ _ _ _
  rw [half_zero,dgs_len]
  exact ⟨madeU hown,u64_rep m⟩
 clear hgrow hown
 go_loopw [4,6,13] (fun _ _ i wr=>∃ k:Nat,k≤m∧i=.int .i64 k∧Hid (OwnU w.heap.size wr (some ⟨w.heap.size,0,none⟩) m m (half (dgs bs m) k))∧Below w.heap.size w wr) (fun _ _ i _=>m - (intOf i).toNat)
 case atStart=>exact ⟨0,Nat.zero_le _,rfl,HST,hbl⟩
 case round =>
  obtain ⟨k,hk,rfl,HO,hbr⟩:=hrel
  clear HST hbl
  by_cases hlt:k<m
  ·have hlti:(k:Int)<(m:Int):=by omega
   have h8k:8 * k+8≤n:=by omega
   have e8:8 * ((k:Int)+1)=8 * (k:Int)+8:=by omega
   have u1:(8 * (k:Int)).toNat=8 * k:=by omega
   have u2:(8 * (k:Int)+8).toNat=8 * k+8:=by omega
   have hb0:0≤8 * (k:Int):=by omega
   have hb1:8 * (k:Int)+8≤(n:Int):=by omega
   have hb2:8 * (k:Int)+8≤(c:Int):=by omega
   obtain ⟨b,off,rfl,hlb,_⟩:=H0.out.get (8 * k) (by omega)
   go_upto_region 5 with fail
   have hHL:k<(dgs bs m).length:=by rw [dgs_len]; exact hlt
   have HI:Hid (OwnU w.heap.size wr (some ⟨w.heap.size,0,none⟩) m m ((half (dgs bs m) k).set k (wdK bs (8 * k) 0))):=by
    show OwnU _ _ _ _ _ _
    rw [wdK,half_keep _ _ hHL]
    exact HO.out
   have HBR:Hid (Below w.heap.size w wr):=hbr
   clear HO hbr
   go_wp2
   go_loopw [6,24] (fun _ i wx=>∃ j:Nat,j≤8∧i=.int .i64 j∧Hid (OwnU w.heap.size wx (some ⟨w.heap.size,0,none⟩) m m ((half (dgs bs m) k).set k (wdK bs (8 * k) j)))∧Below w.heap.size w wx) (fun _ i _=>8 - (intOf i).toNat)
   case atStart=>exact ⟨0,by decide,rfl,HI,HBR.out⟩
   case round =>
    obtain ⟨j,hj,rfl,HJ,hbx⟩:=hrel
    clear HI HBR
    by_cases hjl:j<8
    ·have hjli:(j:Int)<8:=by omega
     obtain ⟨b',off',hbe,hlb',hc0⟩:=H0.out.get (8 * k+j) (by omega)
     simp only [Option.some.injEq,Addr.mk.injEq,and_true] at hbe
     obtain ⟨rfl,rfl⟩:=hbe
     have hcx:wr.cell? ⟨b,off+8 * k+j,none⟩=some (.int .u8 (bs.getD (8 * k+j) 0)):=by rw [Nat.add_assoc]; exact (hbx.cell (p:=⟨b,off+(8 * k+j),none⟩) hlb).trans hc0
     have hxb:=H0.out.byte (8 * k+j)
     obtain ⟨x,hx⟩:∃ x,x=bs.getD (8 * k+j) 0:=⟨_,rfl⟩
     rw [← hx] at hcx hxb
     obtain ⟨hx0,hx1⟩:=hxb
     have hy:=wdK_lt bs H0.out.byte (8 * k) j hjl
     have hlen:(half (dgs bs m) k).length=m:=by rw [half_len _ _ (by omega),dgs_len]
     obtain ⟨y,hyy⟩:∃ y,y=wdK bs (8 * k) j:=⟨_,rfl⟩
     have HN:Hid (y * 256+x=wdK bs (8 * k) (j+1)):=by show _=_; rw [wdK,← hyy,hx]
     have hcy:wr.cell? ⟨w.heap.size,k,none⟩=some (.int .u64 y):=by
      rw [HJ.out.row.cellAt k (by omega),← hyy,List.getElem?_map,List.getElem?_set]
      simp [hlen,hlt]
     rw [← hyy] at hy
     obtain ⟨hy0,hy1⟩:=hy
     have hor:=or8 y x hy0 hy1 hx0 (by omega)
     have hfr:wr.frozen? ⟨w.heap.size,k,none⟩=false:=HJ.out.row.frozenAt k
     have hs:=(HJ.out.row.stored k (.int .u64 (y * 256+x))).1
     rw [← List.map_set,List.set_set,HN.out] at hs
     have hrg:=u64_set (u64_half (dgs_bd bs H0.out.byte m) k) k (x:=wdK bs (8 * k) (j+1)) (by have h1:=wdK_bd bs H0.out.byte (8 * k) (j+1); rw [← HN.out] at h1 ⊢; unfold U64; omega)
     have HNX:Hid (OwnU w.heap.size (wr.setCell ⟨w.heap.size,k,none⟩ (.int .u64 (y * 256+x))) (some ⟨w.heap.size,0,none⟩) m m ((half (dgs bs m) k).set k (wdK bs (8 * k) (j+1)))):=⟨by rw [HN.out]; exact hs,hrg⟩
     have HBN:Hid (Below w.heap.size w (wr.setCell ⟨w.heap.size,k,none⟩ (.int .u64 (y * 256+x)))):=hbx.setCell (Nat.le_refl _) _
     clear hs hrg HJ hbx hx hyy hc0 hlb'
     go_wp2
     refine ⟨⟨j+1,by omega,by go_num,HNX,HBN.out⟩,by simp [intOf]; omega⟩
    ·obtain rfl:j=8:=by omega
     have HNX:Hid (OwnU w.heap.size wr (some ⟨w.heap.size,0,none⟩) m m (half (dgs bs m) (k+1))):=by
      have:=HJ.out
      rw [← dgs_get bs m k hlt,half_set _ _ hHL] at this
      exact this
     clear HJ
     go_wp2
     refine ⟨⟨k+1,by omega,by go_num,HNX,hbx⟩,by simp [intOf]; omega⟩
  ·obtain rfl:k=m:=by omega
   have HR:Hid (OwnU w.heap.size wr (some ⟨w.heap.size,0,none⟩) k k (dgs bs k)):=by
    have:=HO.out
    have e:=half_all (dgs bs k)
    rw [dgs_len] at e
    rwa [e] at this
   go_wp2
   go_ret
   exact ⟨_,rfl,HR.out,hbr⟩
open Go.RowKit
theorem getL_place (l:List Int):∀ (m p:Int),(getL l m p).2.2=0→p≤(getL l m p).2.1∧(getL l m p).2.1≤p+l.length:=by
 induction l with
 | nil=>intro m p h; simp [getL] at h
 | cons x r ih =>
  intro m p h
  rw [getL] at h ⊢
  split at h
  ·simp at h
  ·rename_i h1
   rw [if_neg h1]
   split at h
   ·rename_i h2
    rw [if_pos h2]
    simp
    omega
   ·rename_i h2
    rw [if_neg h2]
    have:=ih _ _ h
    simp
    omega
theorem getN_place (bs:List Int)(p:Int)(h:(getN bs p).2.2=0):0≤(getN bs p).2.1∧(getN bs p).2.1≤bs.length:=by
 unfold getN at h ⊢
 split at h
 ·simp at h
 ·rename_i h1
  rw [if_neg h1]
  split at h
  ·simp at h
  ·rename_i h2
   rw [if_neg h2]
   have:=getL_place _ _ _ h
   rw [List.length_drop] at this
   omega
def vgP (y:Int)(ms ss:List Int):Prop:=(getN ss 0).2.2=0∧(getN ss (getN ss 0).2.1).2.2=0∧(getN ss (getN ss 0).2.1).2.1=(ss.length:Int)∧verP y ms ((getN ss 0).1,(getN ss (getN ss 0).2.1).1)
instance (y:Int) (ms ss:List Int):Decidable (vgP y ms ss):=by unfold vgP; infer_instance
theorem groupVerify_any (sc y h:Int)(am:Option Addr)(n c:Nat)(ms:List Int)(ag:Option Addr)(ng cg:Nat)(ss:List Int)(w:World)(hr:Row w am n ms)(hn:n≤1048576)(hc:am=none→c=0)(hg:Row w ag ng ss)(hng:ng≤1048576)(hy:keyP y) :
  Calls Tryz.prog 150 #[.agg #[],kpv sc y h,.slice am n c,.slice ag ng cg] w fun e w'=>e=.returned (.bool (decide (vgP y ms ss)))∧Below w.heap.size w w':=by
 have hyl:=keyP_lt hy
 obtain ⟨hy0,hy1⟩:=hyl
 obtain ⟨wb,hwb⟩:∃ wb,wb=(w.alloc (.cells #[] 143)).alloc (.cells #[.int .i64 sc,.int .u64 y,.int .i64 h] 41):=⟨_,rfl⟩
 have hbb:Below w.heap.size w wb:=by rw [hwb]; exact two_below _ _ _
 have hbx:wb.heap[w.heap.size+1]? = some (.cells #[.int .i64 sc,.int .u64 y,.int .i64 h] 41):=by rw [hwb]; exact (two_blocks w _ _).2
 have HW:Hid (_=_):=hwb
 have HG:Hid (Row wb ag ng ss):=hg.kept hbb
 have HM:Hid (Row wb am n ms):=hr.kept hbb
 have HL:Hid (ss.length=ng):=hg.len
 have q1:wb.cell? ⟨w.heap.size+1,1,none⟩=some (.int .u64 y):=(cell_of_row _ _ 1 _ 41 (0,0) hbx).trans rfl
 obtain ⟨t1,ht1⟩:∃ t1,t1=getN ss 0:=⟨_,rfl⟩
 have H1:Hid (getN ss 0=t1):=ht1.symm
 obtain ⟨e1,at1,k1⟩:=t1
 obtain ⟨t2,ht2⟩:∃ t2,t2=getN ss at1:=⟨_,rfl⟩
 have H2:Hid (getN ss at1=t2):=ht2.symm
 obtain ⟨e2,at2,k2⟩:=t2
 have HV:Hid (vgP y ms ss↔(k1=0∧k2=0∧at2=(ng:Int)∧verP y ms (e1,e2))):=by
  show _↔_
  unfold vgP
  rw [H1.out,H2.out,HL.out]
 clear hwb hg hr hbx ht1 ht2
 unfold kpv
 go_enter Tryz.func150,Tryz.ntmps150
 go_upto_region 1 with fail
 rw [← HW.out]
 clear HW
 go_wp2_with fail
 refine (implGetNum_any ag ng cg ss 0 _ HG.out (by omega)).mono ?_
 rintro e w2 ⟨rfl,hw⟩
 have hw2:=hw.symm
 subst hw2
 rw [H1.out,trip]
 go_wp2_with fail
 refine (implGetNum_any ag ng cg ss at1 _ HG.out (by omega)).mono ?_
 rintro e w2 ⟨rfl,hw⟩
 have hw2:=hw.symm
 subst hw2
 rw [H2.out,trip]
 by_cases hk1:k1=0
 ·have z1:(k1 != 0)=false:=by simp [hk1]
  by_cases hk2:k2=0
  ·have z2:(k2 != 0)=false:=by simp [hk2]
   by_cases ha:at2=(ng:Int)
   ·have z3:(at2 != (ng:Int))=false:=by simp [ha]
    have HE:Hid (decide (vgP y ms ss)=decide (verP y ms (e1,e2))):=decide_eq_decide.2 ⟨fun a=>(HV.out.1 a).2.2.2,fun a=>HV.out.2 ⟨hk1,hk2,ha,a⟩⟩
    clear hk1 hk2 ha
    go_wp2_with fail
    refine (implVerify_any y am n c ms (e1,e2) _ HM.out hn hc).mono ?_
    rintro e w3 ⟨rfl,hb3⟩
    go_wp2
    go_ret
    exact ⟨by rw [HE.out]; rfl,keepT hbb hb3⟩
   ·have z3:(at2 != (ng:Int))=true:=by simp [ha]
    have HE:Hid (decide (vgP y ms ss)=false):=decide_eq_false (fun a=>ha (HV.out.1 a).2.2.1)
    clear hk1 hk2 ha
    go_wp2
    go_ret
    exact ⟨by rw [HE.out]; rfl,hbb⟩
  ·have z2:(k2 != 0)=true:=by simp [hk2]
   have HE:Hid (decide (vgP y ms ss)=false):=decide_eq_false (fun a=>hk2 (HV.out.1 a).2.1)
   clear hk1 hk2
   go_wp2
   go_ret
   exact ⟨by rw [HE.out]; rfl,hbb⟩
 ·have z1:(k1 != 0)=true:=by simp [hk1]
  have HE:Hid (decide (vgP y ms ss)=false):=decide_eq_false (fun a=>hk1 (HV.out.1 a).1)
  clear hk1
  go_wp2
  go_ret
  exact ⟨by rw [HE.out]; rfl,hbb⟩
end Go.Proofs.YtkdandggklpppaaGreatDoor
