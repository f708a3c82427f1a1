import Derived.Test.YtmdfbnlgfhjnoaaGreatDoorFC17
import Derived.Test.YtmdfbnlgfhjnoaaGreatDoorFC20
set_option maxRecDepth 10000
set_option maxHeartbeats 8000000
set_option linter.unusedVariables false
namespace Go.Proofs.YtmdfbnlgfhjnoaaGreatDoor
open Go.RowKit
theorem genP_1 {g:GT}{xs:List PT}(hk:g.kind=1)(hb:bareB g xs.length=true)(h0:g.bits=0):genP g xs↔hostP g.text true:=by
 obtain ⟨q1,q2⟩:=bare_12 hb (.inl hk)
 unfold genP
 constructor
 ·rintro (⟨_,_,h⟩ | ⟨h,_⟩ | ⟨h,_⟩ | ⟨h,_⟩)
  ·exact h
  all_goals omega
 ·exact fun h=>.inl ⟨hk,⟨q1,h0,q2⟩,h⟩
theorem genP_2 {g:GT}{xs:List PT}(hk:g.kind=2)(hb:bareB g xs.length=true)(h0:g.bits=0):genP g xs↔mailP g.text:=by
 obtain ⟨q1,q2⟩:=bare_12 hb (.inr hk)
 unfold genP
 constructor
 ·rintro (⟨h,_⟩ | ⟨_,_,h⟩ | ⟨h,_⟩ | ⟨h,_⟩)
  ·omega
  ·exact h
  all_goals omega
 ·exact fun h=>.inr (.inl ⟨hk,⟨q1,h0,q2⟩,h⟩)
theorem genP_3 {g:GT}{xs:List PT}(hk:g.kind=3)(hb:bareB g xs.length=true)(h0:g.bits=0):genP g xs↔(0≤g.addr∧g.addr≤4294967295):=by
 obtain ⟨q1,q2⟩:=bare_3 hb hk
 unfold genP
 constructor
 ·rintro (⟨h,_⟩ | ⟨h,_⟩ | ⟨_,_,h,_⟩ | ⟨h,_⟩)
  ·omega
  ·omega
  ·exact h
  ·omega
 ·exact fun h=>.inr (.inr (.inl ⟨hk,⟨q1,q2⟩,h,h0⟩))
theorem genP_4 {g:GT}{xs:List PT}(hk:g.kind=4)(hb:bareB g xs.length=true)(h0:g.bits=0):genP g xs↔(nameP xs∧0<xs.length):=by
 obtain ⟨q1,q2⟩:=bare_4 hb hk
 unfold genP
 constructor
 ·rintro (⟨h,_⟩ | ⟨h,_⟩ | ⟨h,_⟩ | ⟨_,_,h⟩)
  ·omega
  ·omega
  ·omega
  ·exact h
 ·exact fun h=>.inr (.inr (.inr ⟨hk,⟨q1,q2,h0⟩,h⟩))
theorem genP_bits {g:GT}{xs:List PT}(h:genP g xs):g.bits=0:=by
 rcases h with ⟨_,⟨_,h,_⟩,_⟩ | ⟨_,⟨_,h,_⟩,_⟩ | ⟨_,_,_,h⟩ | ⟨_,⟨_,_,h⟩,_⟩ <;> exact h
theorem genP_kind {g:GT}{xs:List PT}(h:genP g xs):g.kind=1∨g.kind=2∨g.kind=3∨g.kind=4:=by
 rcases h with ⟨h,_⟩ | ⟨h,_⟩ | ⟨h,_⟩ | ⟨h,_⟩ <;> omega
theorem specGenOk_any (g:GT)(a:Option Addr)(n c:Nat)(xs:List PT)(w:World)(h:Pts w a n xs)(hz:∀ k,k<n→(xs.getD k default).val.size≤1048576)(hs:g.text.size≤1048576) :
  Calls Tryz.prog 133 #[gnv g a n c] w (SaysB (genP g xs) w):=by
 obtain ⟨P,hP⟩:∃ P,P=genP g xs:=⟨_,rfl⟩
 rw [← hP]
 have HP:Hid (P=genP g xs):=hP
 have HK:Hid (Pts w a n xs):=h
 have HZ:Hid (_):=hz
 have hl:=h.len
 have hmx:=h.max
 clear hP h hz
 have hbl:Below w.heap.size w (w.alloc (.cells #[.int .i64 g.kind,.string g.text,.int .i64 g.addr,.int .i64 g.bits,.slice a n c] 127)):=(Below.refl _ _).alloc (Nat.le_refl _) _
 have hbx:=boxG_new 127 w g a n c
 have LB:=l6Bare_any g a n c
 unfold gnv at LB ⊢
 go_enter Tryz.func133,Tryz.ntmps133
 go_wp2_with fail
 refine (LB _).mono ?_
 rintro e w1 ⟨rfl,hb1⟩
 have B1:Below w.heap.size w w1:=hbl.trans (hb1.mono hbl.size)
 obtain ⟨p0,p1,p2,p3,p4⟩:=(hbx.kept hb1).cells
 have hlt:w.heap.size<w1.heap.size:=Nat.lt_of_lt_of_le (by simp) hb1.size
 obtain ⟨B,hB⟩:∃ B,B=bareB g n:=⟨_,rfl⟩
 rw [← hB]
 clear LB hbx hbl hb1
 cases B with
 | false =>
  have HN:Hid (¬ P):=by show ¬ P; rw [HP.out]; exact (bare_f (by rw [hl]; exact hB.symm)).1
  clear hB HP HK HZ
  go_wp2
  go_ret
  exact saysB_f HN.out B1
 | true =>
  have HBB:Hid (bareB g xs.length=true):=by show _=true; rw [hl]; exact hB.symm
  clear hB
  by_cases hb0:g.bits=0
  ·have zb:(g.bits != 0)=false:=by simp [hb0]
   by_cases k1:g.kind=1
   ·have HI:Hid (P↔hostP g.text true):=by show P↔_; rw [HP.out]; exact genP_1 k1 HBB.out hb0
    have e1:(g.kind == 1)=true:=beq_iff_eq.2 k1
    clear HP HK HZ HBB hb0 k1
    go_wp2_with fail
    refine (specHostOk_any g.text true _).mono ?_
    rintro e w2 ⟨b,rfl,HV,hb2⟩
    have B2:Below w.heap.size w w2:=B1.trans (hb2.mono B1.size)
    go_wp2
    go_ret
    exact ⟨b,rfl,HV.out.trans HI.out.symm,B2⟩
   have e1:(g.kind == 1)=false:=beq_false_of_ne k1
   by_cases k2:g.kind=2
   ·have HI:Hid (P↔mailP g.text):=by show P↔_; rw [HP.out]; exact genP_2 k2 HBB.out hb0
    have e2:(g.kind == 2)=true:=beq_iff_eq.2 k2
    clear HP HK HZ HBB hb0 k1 k2
    go_wp2_with fail
    refine (l6MailOk_any g.text _ hs).mono ?_
    rintro e w2 ⟨b,rfl,HV,hb2⟩
    have B2:Below w.heap.size w w2:=B1.trans (hb2.mono B1.size)
    go_wp2
    go_ret
    exact ⟨b,rfl,HV.out.trans HI.out.symm,B2⟩
   have e2:(g.kind == 2)=false:=beq_false_of_ne k2
   by_cases k3:g.kind=3
   ·have HI:Hid (P↔(0≤g.addr∧g.addr≤4294967295)):=by show P↔_; rw [HP.out]; exact genP_3 k3 HBB.out hb0
    have e3:(g.kind == 3)=true:=beq_iff_eq.2 k3
    clear HP HK HZ HBB hb0 k1 k2 k3
    go_wp2_with fail
    refine (l1In_says g.addr 0 4294967295 _).mono ?_
    rintro e w2 ⟨b,rfl,HV,hw2⟩
    subst hw2
    go_wp2
    go_ret
    exact ⟨b,rfl,HV.out.trans HI.out.symm,B1⟩
   have e3:(g.kind == 3)=false:=beq_false_of_ne k3
   by_cases k4:g.kind=4
   ·have HI:Hid (P↔(nameP xs∧0<xs.length)):=by show P↔_; rw [HP.out]; exact genP_4 k4 HBB.out hb0
    have e4:(g.kind == 4)=true:=beq_iff_eq.2 k4
    clear HP HBB hb0 k1 k2 k3 k4
    have SN:=specNameOk_any a n c xs w1 (HK.out.kept B1) HZ.out
    unfold nmv at SN
    go_wp2_with fail
    refine SN.mono ?_
    rintro e w2 ⟨b,rfl,HV,hb2⟩
    have B2:Below w.heap.size w w2:=B1.trans (hb2.mono B1.size)
    have y4:w2.cell? ⟨w.heap.size,4,none⟩=some (.slice a n c):=(hb2.cell (p:=⟨w.heap.size,4,none⟩) hlt).trans p4
    clear SN HK HZ
    cases b with
    | false =>
     have HN:Hid (¬ P):=fun q=>Bool.false_ne_true (HV.out.2 (HI.out.1 q).1)
     clear HV HI
     go_wp2
     go_ret
     exact saysB_f HN.out B2
    | true =>
     by_cases hn0:0<n
     ·have HN:Hid P:=HI.out.2 ⟨HV.out.1 rfl,by rw [hl]; exact hn0⟩
      have zn:decide ((0:Int)<(n:Int))=true:=decide_eq_true (by omega)
      clear HV HI
      go_wp2
      go_ret
      exact saysB_t HN.out B2
     ·have HN:Hid (¬ P):=fun q=>hn0 (by rw [← hl]; exact (HI.out.1 q).2)
      have zn:decide ((0:Int)<(n:Int))=false:=decide_eq_false (by omega)
      clear HV HI
      go_wp2
      go_ret
      exact saysB_f HN.out B2
   ·have e4:(g.kind == 4)=false:=beq_false_of_ne k4
    have HN:Hid (¬ P):=by show ¬ P; rw [HP.out]; intro q; rcases genP_kind q with q | q | q | q <;> omega
    clear HP HK HZ HBB hb0 k1 k2 k3 k4
    go_wp2
    go_ret
    exact saysB_f HN.out B1
  ·have zb:(g.bits != 0)=true:=bne_iff_ne.2 hb0
   have HN:Hid (¬ P):=by show ¬ P; rw [HP.out]; exact fun q=>hb0 (genP_bits q)
   clear HP HK HZ HBB hb0
   go_wp2
   go_ret
   exact saysB_f HN.out B1
open Go.RowKit
theorem wsz_at (n:Int)(k:Nat)(h0:1≤k)(h1:k<8):∃ H:Int,wrap64 (2 ^ (8 * k - 1))=H∧wrap64 (-2 ^ (8 * k - 1)) = -H∧(wsz n≤k↔-H≤n∧n<H):=by
 rcases (show k=1∨k=2∨k=3∨k=4∨k=5∨k=6∨k=7 by omega) with rfl | rfl | rfl | rfl | rfl | rfl | rfl
 ·exact ⟨128,by decide +kernel,by decide +kernel,wsz_le1 n⟩
 ·exact ⟨32768,by decide +kernel,by decide +kernel,wsz_le2 n⟩
 ·exact ⟨8388608,by decide +kernel,by decide +kernel,wsz_le3 n⟩
 ·exact ⟨2147483648,by decide +kernel,by decide +kernel,wsz_le4 n⟩
 ·exact ⟨549755813888,by decide +kernel,by decide +kernel,wsz_le5 n⟩
 ·exact ⟨140737488355328,by decide +kernel,by decide +kernel,wsz_le6 n⟩
 ·exact ⟨36028797018963968,by decide +kernel,by decide +kernel,wsz_le7 n⟩
theorem wb_at (n:Int)(q:Nat)(h:q≤7):n / 2 ^ (8 * q) % 256=(wb8 n).getD (7 - q) 0:=by
 match q,h with
 | 0,_=>simp [wb8]
 | 1,_=>simp [wb8]
 | 2,_=>simp [wb8]
 | 3,_=>simp [wb8]
 | 4,_=>simp [wb8]
 | 5,_=>simp [wb8]
 | 6,_=>simp [wb8]
 | 7,_=>simp [wb8]
def wbP (n:Int)(k q:Nat):List Int:=((wb8 n).drop (8 - k)).take (k - q)
theorem wbP_next (n:Int)(k q:Nat)(hk:k≤8)(hq:q<k):wbP n k (q+1)++[(wb8 n).getD (7 - q) 0]=wbP n k q:=by
 unfold wbP
 have hl:k - (q+1)<((wb8 n).drop (8 - k)).length:=by rw [List.length_drop,wb8_len]; omega
 rw [show k - q=k - (q+1)+1 by omega,take_snoc _ _ hl]
 congr 2
 rw [List.getD_eq_getElem?_getD,List.getD_eq_getElem?_getD,List.getElem?_drop,show 8 - k+(k - (q+1))=7 - q by omega]
theorem l3Number_any (n:Int)(w:World) :
  Calls Tryz.prog 137 #[.int .i64 n] w fun e w'=>∃ a c,e=.returned (.slice a (wsz n) c)∧Own w.heap.size w' a (wsz n) c (wbL n)∧Below w.heap.size w w':=by
 obtain ⟨i0,hi,hz0,hz1,hz2⟩:=info_parts Tryz.info5
 have HOE:Hid (_):=own_empty w
 have HBE:Hid (Below w.heap.size w (w.alloc (.cells #[] 5))):=(Below.refl _ _).alloc (Nat.le_refl _) _
 have hsz:=wsz_bd n
 go_enter Tryz.func137,Tryz.ntmps137
 go_wp2
 go_loopw [3] (fun s wr=>∃ k:Nat,k≤8∧1≤k∧s=.int .i64 k∧Hid (k≤wsz n)∧w=wr) (fun s _=>8 - (intOf s).toNat)
 case atStart=>exact ⟨1,by decide,by decide,rfl,hsz.1,rfl⟩
 case round =>
  obtain ⟨k,hk,hk1,rfl,HK,rfl⟩:=hrel
  by_cases hgo:k<8∧¬ wsz n≤k
  ·obtain ⟨H,hp,hn,hiff⟩:=wsz_at n k hk1 hgo.1
   have hk8i:(k:Int)<8:=by omega
   have HN:Hid (k+1≤wsz n):=by show _≤_; omega
   by_cases hH:H≤n
   ·clear hiff hgo
    go_wp2
    go_roundw
    case rel=>exact ⟨k+1,by omega,by omega,by go_num,HN,by first | rfl | trivial⟩
    case measure=>simp [intOf]; omega
   ·have hH2:n < -H:=by
     have h:=hgo.2
     rw [hiff] at h
     omega
    clear hiff hgo
    go_wp2
    go_roundw
    case rel=>exact ⟨k+1,by omega,by omega,by go_num,HN,by first | rfl | trivial⟩
    case measure=>simp [intOf]; omega
  ·have hex:k=wsz n:=by have:=HK.out; omega
   have HX:Hid (k=wsz n):=hex
   have tail:∀ (W:World),W=w.alloc (.cells #[] 5)→Own w.heap.size W (some ⟨w.heap.size,0,none⟩) 0 0 (wbP n k k)∧Below w.heap.size w W:=by
    intro W hW
    have e:wbP n k k = []:=by unfold wbP; simp
    rw [hW,e]
    exact ⟨HOE.out,HBE.out⟩
   have TAIL:Hid (_):=tail
   clear tail hex
   by_cases hk8:k<8
   ·obtain ⟨H,hp,hn,hiff⟩:=wsz_at n k hk1 hk8
    have hk8i:(k:Int)<8:=by omega
    have hH:¬ H≤n:=by have:=hiff.1 (by omega); omega
    have hH2:¬ n < -H:=by have:=hiff.1 (by omega); omega
    clear hiff hgo
    go_wp2
    go_loopw [4,5] (fun o i wr=>∃ (a:Option Addr) (q len cap:Nat),q≤k∧len=k - q∧i=.int .i64 ((q:Int) - 1)∧o=.slice a len cap∧Own w.heap.size wr a len cap (wbP n k q)∧Below w.heap.size w wr) (fun _ i _=>((intOf i)+1).toNat)
    case atStart=>exact ⟨_,k,0,0,Nat.le_refl _,by omega,rfl,rfl,(TAIL.out _ rfl).1,(TAIL.out _ rfl).2⟩
    case round =>
     obtain ⟨a,q,len,cap,hq,hle,rfl,rfl,hor,hbr⟩:=hrel
     have HLe:Hid (len=k - q):=hle
     clear hle
     rcases q with _ | q
     ·go_wp2
      go_ret
      have hlk:k=len:=by have:=HLe.out; omega
      subst hlk
      have e:wbP n k 0=wbL n:=by unfold wbP wbL; rw [← HX.out,List.take_of_length_le (by rw [List.length_drop,wb8_len]; omega)]
      rw [e] at hor
      exact ⟨_,_,by rw [← HX.out]; rfl,by rw [← HX.out]; exact hor,hbr⟩
     ·have e1:((q+1:Nat):Int) - 1=(q:Int):=by omega
      rw [e1]
      clear e1
      have hl9:len≤9:=by have:=HLe.out; omega
      have hq7:q≤7:=by omega
      have hws:w.heap.size≤wr.heap.size:=hbr.size
      have HE:Hid (_=_):=wb_at n q hq7
      go_wp2_with (at_builtin; go_loud (refine wpList_append_own _ rfl _ _ 32 rfl w.heap.size 5 i0 (.int .u8 0) 1 1 Tryz.underlying32 hi hz0 hz1 hz2 rfl (by decide) _ _ _ rfl (hor.row.alloc _) ⟨wr.heap.size,0,none⟩ 1 1 [_] rfl rfl (cell_one_new _ _ _) (by intro u hu; simp at hu; subst hu; rfl) (by unfold maxLen; omega) (by omega) (by simp; omega) ?_); intro v' w1 hown' hgrow' _)
      have hb1:Below w.heap.size w w1:=below_appended (hbr.alloc hws _) (by simp; omega) (hor.row.alloc _) hgrow'
      rw [HE.out] at hown'
      obtain ⟨a',cap',rfl,ho⟩:=own_appended (ys:=[(wb8 n).getD (7 - q) 0]) hown' hor.byte (by simpa using snoc_byte (xs:=[]) (by simp) _ (wb8_byte n (7 - q)))
      rw [wbP_next n k q (by omega) (by omega)] at ho
      go_roundw
      case rel=>exact ⟨a',q,len+1,cap',by omega,by have:=HLe.out; omega,rfl,rfl,ho,hb1⟩
      case measure=>simp [intOf]
   ·have hk8i:¬ (k:Int)<8:=by omega
    clear hgo
    go_wp2
    go_loopw [4,5] (fun o i wr=>∃ (a:Option Addr) (q len cap:Nat),q≤k∧len=k - q∧i=.int .i64 ((q:Int) - 1)∧o=.slice a len cap∧Own w.heap.size wr a len cap (wbP n k q)∧Below w.heap.size w wr) (fun _ i _=>((intOf i)+1).toNat)
    case atStart=>exact ⟨_,k,0,0,Nat.le_refl _,by omega,rfl,rfl,(TAIL.out _ rfl).1,(TAIL.out _ rfl).2⟩
    case round =>
     obtain ⟨a,q,len,cap,hq,hle,rfl,rfl,hor,hbr⟩:=hrel
     have HLe:Hid (len=k - q):=hle
     clear hle
     rcases q with _ | q
     ·go_wp2
      go_ret
      have hlk:k=len:=by have:=HLe.out; omega
      subst hlk
      have e:wbP n k 0=wbL n:=by unfold wbP wbL; rw [← HX.out,List.take_of_length_le (by rw [List.length_drop,wb8_len]; omega)]
      rw [e] at hor
      exact ⟨_,_,by rw [← HX.out]; rfl,by rw [← HX.out]; exact hor,hbr⟩
     ·have e1:((q+1:Nat):Int) - 1=(q:Int):=by omega
      rw [e1]
      clear e1
      have hl9:len≤9:=by have:=HLe.out; omega
      have hq7:q≤7:=by omega
      have hws:w.heap.size≤wr.heap.size:=hbr.size
      have HE:Hid (_=_):=wb_at n q hq7
      go_wp2_with (at_builtin; go_loud (refine wpList_append_own _ rfl _ _ 32 rfl w.heap.size 5 i0 (.int .u8 0) 1 1 Tryz.underlying32 hi hz0 hz1 hz2 rfl (by decide) _ _ _ rfl (hor.row.alloc _) ⟨wr.heap.size,0,none⟩ 1 1 [_] rfl rfl (cell_one_new _ _ _) (by intro u hu; simp at hu; subst hu; rfl) (by unfold maxLen; omega) (by omega) (by simp; omega) ?_); intro v' w1 hown' hgrow' _)
      have hb1:Below w.heap.size w w1:=below_appended (hbr.alloc hws _) (by simp; omega) (hor.row.alloc _) hgrow'
      rw [HE.out] at hown'
      obtain ⟨a',cap',rfl,ho⟩:=own_appended (ys:=[(wb8 n).getD (7 - q) 0]) hown' hor.byte (by simpa using snoc_byte (xs:=[]) (by simp) _ (wb8_byte n (7 - q)))
      rw [wbP_next n k q (by omega) (by omega)] at ho
      go_roundw
      case rel=>exact ⟨a',q,len+1,cap',by omega,by have:=HLe.out; omega,rfl,rfl,ho,hb1⟩
      case measure=>simp [intOf]
end Go.Proofs.YtmdfbnlgfhjnoaaGreatDoor
