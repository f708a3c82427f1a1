import Derived.Deep.RegionHeldLaw
import Derived.Test.YtmdfbnlgfhjnoaaGreatDoorFA08
import Derived.Test.YtmdfbnlgfhjnoaaGreatDoorFA12
import Derived.Test.YtmdfbnlgfhjnoaaGreatDoorFA16
import Derived.Test.YtmdfbnlgfhjnoaaGreatDoorFA17
set_option maxRecDepth 10000
set_option maxHeartbeats 8000000
set_option linter.unusedVariables false
namespace Go.Proofs.YtmdfbnlgfhjnoaaGreatDoor
open Go.RowKit
theorem two_below (w:World)(o0 o1:Obj):Below w.heap.size w ((w.alloc o0).alloc o1):=((Below.refl _ _).alloc (Nat.le_refl _) _).alloc (by simp) _
theorem two_blocks (w:World)(o0 o1:Obj):((w.alloc o0).alloc o1).heap[w.heap.size]? = some o0∧((w.alloc o0).alloc o1).heap[w.heap.size+1]? = some o1:=by
 have s1:(w.alloc o0).heap.size=w.heap.size+1:=by simp
 exact ⟨(alloc_old' _ o1 _ (by omega)).trans (heap_alloc_new w o0),by rw [← s1]; exact heap_alloc_new _ o1⟩
open Go.RowKit
theorem wsz_at (n:Int)(k:Nat)(h0:1≤k)(h1:k<8):∃ H:Int,wrap64 (2 ^ (8 * k - 1))=H∧wrap64 (-2 ^ (8 * k - 1)) = -H∧(wsz n≤k↔-H≤n∧n<H):=by
 rcases (show k=1∨k=2∨k=3∨k=4∨k=5∨k=6∨k=7 by omega) with rfl | rfl | rfl | rfl | rfl | rfl | rfl
 ·exact ⟨128,by decide +kernel,by decide +kernel,wsz_le1 n⟩
 ·exact ⟨32768,by decide +kernel,by decide +kernel,wsz_le2 n⟩
 ·exact ⟨8388608,by decide +kernel,by decide +kernel,wsz_le3 n⟩
 ·exact ⟨2147483648,by decide +kernel,by decide +kernel,wsz_le4 n⟩
 ·exact ⟨549755813888,by decide +kernel,by decide +kernel,wsz_le5 n⟩
 ·exact ⟨140737488355328,by decide +kernel,by decide +kernel,wsz_le6 n⟩
 ·exact ⟨36028797018963968,by decide +kernel,by decide +kernel,wsz_le7 n⟩
theorem wb_at (n:Int)(q:Nat)(h:q≤7):n / 2 ^ (8 * q) % 256=(wb8 n).getD (7 - q) 0:=by
 match q,h with
 | 0,_=>simp [wb8]
 | 1,_=>simp [wb8]
 | 2,_=>simp [wb8]
 | 3,_=>simp [wb8]
 | 4,_=>simp [wb8]
 | 5,_=>simp [wb8]
 | 6,_=>simp [wb8]
 | 7,_=>simp [wb8]
def wbP (n:Int)(k q:Nat):List Int:=((wb8 n).drop (8 - k)).take (k - q)
theorem wbP_next (n:Int)(k q:Nat)(hk:k≤8)(hq:q<k):wbP n k (q+1)++[(wb8 n).getD (7 - q) 0]=wbP n k q:=by
 unfold wbP
 have hl:k - (q+1)<((wb8 n).drop (8 - k)).length:=by rw [List.length_drop,wb8_len]; omega
 rw [show k - q=k - (q+1)+1 by omega,take_snoc _ _ hl]
 congr 2
 rw [List.getD_eq_getElem?_getD,List.getD_eq_getElem?_getD,List.getElem?_drop,show 8 - k+(k - (q+1))=7 - q by omega]
theorem l3Number_any (n:Int)(w:World) :
  Calls Tryz.prog 137 #[.int .i64 n] w fun e w'=>∃ a c,e=.returned (.slice a (wsz n) c)∧Own w.heap.size w' a (wsz n) c (wbL n)∧Below w.heap.size w w':=by
 obtain ⟨i0,hi,hz0,hz1,hz2⟩:=info_parts Tryz.info5
 have HOE:Hid (_):=own_empty w
 have HBE:Hid (Below w.heap.size w (w.alloc (.cells #[] 5))):=(Below.refl _ _).alloc (Nat.le_refl _) _
 have hsz:=wsz_bd n
 go_enter Tryz.func137,Tryz.ntmps137
 go_wp2
 go_loopw [3] (fun s wr=>∃ k:Nat,k≤8∧1≤k∧s=.int .i64 k∧Hid (k≤wsz n)∧w=wr) (fun s _=>8 - (intOf s).toNat)
 case atStart=>exact ⟨1,by decide,by decide,rfl,hsz.1,rfl⟩
 case round =>
  obtain ⟨k,hk,hk1,rfl,HK,rfl⟩:=hrel
  by_cases hgo:k<8∧¬ wsz n≤k
  ·obtain ⟨H,hp,hn,hiff⟩:=wsz_at n k hk1 hgo.1
   have hk8i:(k:Int)<8:=by omega
   have HN:Hid (k+1≤wsz n):=by show _≤_; omega
   by_cases hH:H≤n
   ·clear hiff hgo
    go_wp2
    go_roundw
    case rel=>exact ⟨k+1,by omega,by omega,by go_num,HN,by first | rfl | trivial⟩
    case measure=>simp [intOf]; omega
   ·have hH2:n < -H:=by
     have h:=hgo.2
     rw [hiff] at h
     omega
    clear hiff hgo
    go_wp2
    go_roundw
    case rel=>exact ⟨k+1,by omega,by omega,by go_num,HN,by first | rfl | trivial⟩
    case measure=>simp [intOf]; omega
  ·have hex:k=wsz n:=by have:=HK.out; omega
   have HX:Hid (k=wsz n):=hex
   have tail:∀ (W:World),W=w.alloc (.cells #[] 5)→Own w.heap.size W (some ⟨w.heap.size,0,none⟩) 0 0 (wbP n k k)∧Below w.heap.size w W:=by
    intro W hW
    have e:wbP n k k = []:=by unfold wbP; simp
    rw [hW,e]
    exact ⟨HOE.out,HBE.out⟩
   have TAIL:Hid (_):=tail
   clear tail hex
   by_cases hk8:k<8
   ·obtain ⟨H,hp,hn,hiff⟩:=wsz_at n k hk1 hk8
    have hk8i:(k:Int)<8:=by omega
    have hH:¬ H≤n:=by have:=hiff.1 (by omega); omega
    have hH2:¬ n < -H:=by have:=hiff.1 (by omega); omega
    clear hiff hgo
    go_wp2
    go_loopw [4,5] (fun o i wr=>∃ (a:Option Addr) (q len cap:Nat),q≤k∧len=k - q∧i=.int .i64 ((q:Int) - 1)∧o=.slice a len cap∧Own w.heap.size wr a len cap (wbP n k q)∧Below w.heap.size w wr) (fun _ i _=>((intOf i)+1).toNat)
    case atStart=>exact ⟨_,k,0,0,Nat.le_refl _,by omega,rfl,rfl,(TAIL.out _ rfl).1,(TAIL.out _ rfl).2⟩
    case round =>
     obtain ⟨a,q,len,cap,hq,hle,rfl,rfl,hor,hbr⟩:=hrel
     have HLe:Hid (len=k - q):=hle
     clear hle
     rcases q with _ | q
     ·go_wp2
      go_ret
      have hlk:k=len:=by have:=HLe.out; omega
      subst hlk
      have e:wbP n k 0=wbL n:=by unfold wbP wbL; rw [← HX.out,List.take_of_length_le (by rw [List.length_drop,wb8_len]; omega)]
      rw [e] at hor
      exact ⟨_,_,by rw [← HX.out]; rfl,by rw [← HX.out]; exact hor,hbr⟩
     ·have e1:((q+1:Nat):Int) - 1=(q:Int):=by omega
      rw [e1]
      clear e1
      have hl9:len≤9:=by have:=HLe.out; omega
      have hq7:q≤7:=by omega
      have hws:w.heap.size≤wr.heap.size:=hbr.size
      have HE:Hid (_=_):=wb_at n q hq7
      go_wp2_with (at_builtin; go_loud (refine wpList_append_own _ rfl _ _ 32 rfl w.heap.size 5 i0 (.int .u8 0) 1 1 Tryz.underlying32 hi hz0 hz1 hz2 rfl (by decide) _ _ _ rfl (hor.row.alloc _) ⟨wr.heap.size,0,none⟩ 1 1 [_] rfl rfl (cell_one_new _ _ _) (by intro u hu; simp at hu; subst hu; rfl) (by unfold maxLen; omega) (by omega) (by simp; omega) ?_); intro v' w1 hown' hgrow' _)
      have hb1:Below w.heap.size w w1:=below_appended (hbr.alloc hws _) (by simp; omega) (hor.row.alloc _) hgrow'
      rw [HE.out] at hown'
      obtain ⟨a',cap',rfl,ho⟩:=own_appended (ys:=[(wb8 n).getD (7 - q) 0]) hown' hor.byte (by simpa using snoc_byte (xs:=[]) (by simp) _ (wb8_byte n (7 - q)))
      rw [wbP_next n k q (by omega) (by omega)] at ho
      go_roundw
      case rel=>exact ⟨a',q,len+1,cap',by omega,by have:=HLe.out; omega,rfl,rfl,ho,hb1⟩
      case measure=>simp [intOf]
   ·have hk8i:¬ (k:Int)<8:=by omega
    clear hgo
    go_wp2
    go_loopw [4,5] (fun o i wr=>∃ (a:Option Addr) (q len cap:Nat),q≤k∧len=k - q∧i=.int .i64 ((q:Int) - 1)∧o=.slice a len cap∧Own w.heap.size wr a len cap (wbP n k q)∧Below w.heap.size w wr) (fun _ i _=>((intOf i)+1).toNat)
    case atStart=>exact ⟨_,k,0,0,Nat.le_refl _,by omega,rfl,rfl,(TAIL.out _ rfl).1,(TAIL.out _ rfl).2⟩
    case round =>
     obtain ⟨a,q,len,cap,hq,hle,rfl,rfl,hor,hbr⟩:=hrel
     have HLe:Hid (len=k - q):=hle
     clear hle
     rcases q with _ | q
     ·go_wp2
      go_ret
      have hlk:k=len:=by have:=HLe.out; omega
      subst hlk
      have e:wbP n k 0=wbL n:=by unfold wbP wbL; rw [← HX.out,List.take_of_length_le (by rw [List.length_drop,wb8_len]; omega)]
      rw [e] at hor
      exact ⟨_,_,by rw [← HX.out]; rfl,by rw [← HX.out]; exact hor,hbr⟩
     ·have e1:((q+1:Nat):Int) - 1=(q:Int):=by omega
      rw [e1]
      clear e1
      have hl9:len≤9:=by have:=HLe.out; omega
      have hq7:q≤7:=by omega
      have hws:w.heap.size≤wr.heap.size:=hbr.size
      have HE:Hid (_=_):=wb_at n q hq7
      go_wp2_with (at_builtin; go_loud (refine wpList_append_own _ rfl _ _ 32 rfl w.heap.size 5 i0 (.int .u8 0) 1 1 Tryz.underlying32 hi hz0 hz1 hz2 rfl (by decide) _ _ _ rfl (hor.row.alloc _) ⟨wr.heap.size,0,none⟩ 1 1 [_] rfl rfl (cell_one_new _ _ _) (by intro u hu; simp at hu; subst hu; rfl) (by unfold maxLen; omega) (by omega) (by simp; omega) ?_); intro v' w1 hown' hgrow' _)
      have hb1:Below w.heap.size w w1:=below_appended (hbr.alloc hws _) (by simp; omega) (hor.row.alloc _) hgrow'
      rw [HE.out] at hown'
      obtain ⟨a',cap',rfl,ho⟩:=own_appended (ys:=[(wb8 n).getD (7 - q) 0]) hown' hor.byte (by simpa using snoc_byte (xs:=[]) (by simp) _ (wb8_byte n (7 - q)))
      rw [wbP_next n k q (by omega) (by omega)] at ho
      go_roundw
      case rel=>exact ⟨a',q,len+1,cap',by omega,by have:=HLe.out; omega,rfl,rfl,ho,hb1⟩
      case measure=>simp [intOf]
open Go.RowKit
def SaysP (P:Prop)(w:World)(e:Ending)(w':World):Prop:=∃ b,e=.returned (.bool b)∧Hid (b=true↔P)∧Below w.heap.size w w'
theorem saysP_t {P:Prop}{w w':World}(h:P)(hb:Below w.heap.size w w'):SaysP P w (.returned (.bool true)) w':=⟨true,rfl,⟨fun _=>h,fun _=>rfl⟩,hb⟩
theorem saysP_f {P:Prop}{w w':World}(h:¬ P)(hb:Below w.heap.size w w'):SaysP P w (.returned (.bool false)) w':=⟨false,rfl,⟨fun e=>(by cases e),fun e=>absurd e h⟩,hb⟩
theorem isPolicy_any (x:Int)(w:World):Calls Tryz.prog 209 #[.int .i64 x] w fun e w'=>e=.returned (.bool (decide (1≤x∧x≤1000)))∧w'=w:=by
 by_cases h:1≤x∧x≤1000
 ·rw [decide_eq_true h]
  go_enter Tryz.func209,Tryz.ntmps209
  go_wp2_with fail
  refine (inBounds_t x 1 1000 _ h).mono ?_
  rintro e w1 ⟨rfl,rfl⟩
  go_wp2
  go_ret
  exact ⟨rfl,rfl⟩
 ·rw [decide_eq_false h]
  go_enter Tryz.func209,Tryz.ntmps209
  go_wp2_with fail
  refine (inBounds_f x 1 1000 _ h).mono ?_
  rintro e w1 ⟨rfl,rfl⟩
  go_wp2
  go_ret
  exact ⟨rfl,rfl⟩
theorem isPolicyOrAny_any (x:Int)(w:World):Calls Tryz.prog 142 #[.int .i64 x] w fun e w'=>e=.returned (.bool (decide (0≤x∧x≤1000)))∧w'=w:=by
 by_cases h:0≤x∧x≤1000
 ·rw [decide_eq_true h]
  go_enter Tryz.func142,Tryz.ntmps142
  go_wp2_with fail
  refine (inBounds_t x 0 1000 _ h).mono ?_
  rintro e w1 ⟨rfl,rfl⟩
  go_wp2
  go_ret
  exact ⟨rfl,rfl⟩
 ·rw [decide_eq_false h]
  go_enter Tryz.func142,Tryz.ntmps142
  go_wp2_with fail
  refine (inBounds_f x 0 1000 _ h).mono ?_
  rintro e w1 ⟨rfl,rfl⟩
  go_wp2
  go_ret
  exact ⟨rfl,rfl⟩
theorem everyPol_any (a:Option Addr)(n c:Nat)(zs:List Int)(w:World)(h:Row64 w a n zs)(hn:n≤9223372036854775807) :
  Calls Tryz.prog 141 #[.slice a n c,.func (Fn.func 142) #[] #[]] w (SaysP (∀ j,j<zs.length→0≤zs.getD j 0∧zs.getD j 0≤1000) w):=by
 have H0:Hid (Row64 w a n zs):=h
 have HL:Hid (zs.length=n):=h.len
 clear h
 go_enter Tryz.func141,Tryz.ntmps141
 go_wp2
 go_loopw [9] (fun i wr=>∃ k:Nat,k≤n∧i=.int .i64 k∧Hid (∀ j,j<k→0≤zs.getD j 0∧zs.getD j 0≤1000)∧w=wr) (fun i _=>n - (intOf i).toNat)
 case atStart=>exact ⟨0,Nat.zero_le _,rfl,fun k hk=>absurd hk (Nat.not_lt_zero _),rfl⟩
 case round =>
  obtain ⟨k,hk,rfl,HE,rfl⟩:=hrel
  by_cases hlt:k<n
  ·obtain ⟨b,off,rfl,hb,hc⟩:=H0.out.get k hlt
   obtain ⟨z,hz⟩:∃ z,z=zs.getD k 0:=⟨_,rfl⟩
   rw [← hz] at hc
   have HZ:Hid (z=zs.getD k 0):=hz
   have hlti:(k:Int)<(n:Int):=by omega
   clear hz
   go_wp2_with fail
   refine (isPolicyOrAny_any z _).mono ?_
   rintro e w2 ⟨rfl,rfl⟩
   by_cases h0:0≤z∧z≤1000
   ·rw [decide_eq_true h0]
    have HN:Hid (∀ j,j<k+1→0≤zs.getD j 0∧zs.getD j 0≤1000):=fun j hj=>by
     by_cases e:j<k
     ·exact HE.out j e
     ·obtain rfl:j=k:=by omega
      rw [← HZ.out]; exact h0
    clear h0 HE
    go_wp2
    go_roundw
    case rel=>exact ⟨k+1,by omega,by go_num,HN,by trivial⟩
    case measure=>simp [intOf]; omega
   ·rw [decide_eq_false h0]
    have HN:Hid (¬ (∀ j,j<zs.length→0≤zs.getD j 0∧zs.getD j 0≤1000)):=fun e=>h0 (by rw [HZ.out]; exact e k (by rw [HL.out]; exact hlt))
    clear h0 HE
    go_wp2
    go_ret
    exact saysP_f HN.out (Below.refl _ _)
  ·obtain rfl:k=n:=by omega
   go_wp2
   go_ret
   exact saysP_t (fun j hj=>HE.out j (by rw [HL.out] at hj; exact hj)) (Below.refl _ _)
theorem limitOk_any (x:Int)(w:World):Calls Tryz.prog 145 #[.int .i64 x] w fun e w'=>e=.returned (.bool (decide ((-1)≤x∧x≤10)))∧w'=w:=by
 by_cases h:(-1)≤x∧x≤10
 ·rw [decide_eq_true h]
  go_enter Tryz.func145,Tryz.ntmps145
  go_wp2_with fail
  refine (inBounds_t x (-1) 10 _ h).mono ?_
  rintro e w1 ⟨rfl,rfl⟩
  go_wp2
  go_ret
  exact ⟨rfl,rfl⟩
 ·rw [decide_eq_false h]
  go_enter Tryz.func145,Tryz.ntmps145
  go_wp2_with fail
  refine (inBounds_f x (-1) 10 _ h).mono ?_
  rintro e w1 ⟨rfl,rfl⟩
  go_wp2
  go_ret
  exact ⟨rfl,rfl⟩
theorem everyLim_any (a:Option Addr)(n c:Nat)(zs:List Int)(w:World)(h:Row64 w a n zs)(hn:n≤9223372036854775807) :
  Calls Tryz.prog 141 #[.slice a n c,.func (Fn.func 145) #[] #[]] w (SaysP (∀ j,j<zs.length→(-1)≤zs.getD j 0∧zs.getD j 0≤10) w):=by
 have H0:Hid (Row64 w a n zs):=h
 have HL:Hid (zs.length=n):=h.len
 clear h
 go_enter Tryz.func141,Tryz.ntmps141
 go_wp2
 go_loopw [9] (fun i wr=>∃ k:Nat,k≤n∧i=.int .i64 k∧Hid (∀ j,j<k→(-1)≤zs.getD j 0∧zs.getD j 0≤10)∧w=wr) (fun i _=>n - (intOf i).toNat)
 case atStart=>exact ⟨0,Nat.zero_le _,rfl,fun k hk=>absurd hk (Nat.not_lt_zero _),rfl⟩
 case round =>
  obtain ⟨k,hk,rfl,HE,rfl⟩:=hrel
  by_cases hlt:k<n
  ·obtain ⟨b,off,rfl,hb,hc⟩:=H0.out.get k hlt
   obtain ⟨z,hz⟩:∃ z,z=zs.getD k 0:=⟨_,rfl⟩
   rw [← hz] at hc
   have HZ:Hid (z=zs.getD k 0):=hz
   have hlti:(k:Int)<(n:Int):=by omega
   clear hz
   go_wp2_with fail
   refine (limitOk_any z _).mono ?_
   rintro e w2 ⟨rfl,rfl⟩
   by_cases h0:(-1)≤z∧z≤10
   ·rw [decide_eq_true h0]
    have HN:Hid (∀ j,j<k+1→(-1)≤zs.getD j 0∧zs.getD j 0≤10):=fun j hj=>by
     by_cases e:j<k
     ·exact HE.out j e
     ·obtain rfl:j=k:=by omega
      rw [← HZ.out]; exact h0
    clear h0 HE
    go_wp2
    go_roundw
    case rel=>exact ⟨k+1,by omega,by go_num,HN,by trivial⟩
    case measure=>simp [intOf]; omega
   ·rw [decide_eq_false h0]
    have HN:Hid (¬ (∀ j,j<zs.length→(-1)≤zs.getD j 0∧zs.getD j 0≤10)):=fun e=>h0 (by rw [HZ.out]; exact e k (by rw [HL.out]; exact hlt))
    clear h0 HE
    go_wp2
    go_ret
    exact saysP_f HN.out (Below.refl _ _)
  ·obtain rfl:k=n:=by omega
   go_wp2
   go_ret
   exact saysP_t (fun j hj=>HE.out j (by rw [HL.out] at hj; exact hj)) (Below.refl _ _)
def polsP (zs:List Int):Prop:=zs.length≤6∧(∀ j,j<zs.length→0≤zs.getD j 0∧zs.getD j 0≤1000)∧unl zs
theorem policiesOk_any (a:Option Addr)(n c:Nat)(zs:List Int)(w:World)(h:Row64 w a n zs)(hn:n≤c)(hc:c≤9223372036854775807) :
  Calls Tryz.prog 97 #[.slice a n c] w (SaysP (polsP zs) w):=by
 have H0:Hid (Row64 w a n zs):=h
 have HL:Hid (zs.length=n):=h.len
 clear h
 by_cases h6:n≤6
 ·have h6':(n:Int)≤6:=by omega
  go_enter Tryz.func97,Tryz.ntmps97
  go_wp2_with fail
  refine (everyPol_any a n c zs _ H0.out (by omega)).mono ?_
  rintro e w1 ⟨b,rfl,HB,hb1⟩
  cases b with
  | false =>
   have HN:Hid (¬ polsP zs):=fun e=>absurd (HB.out.2 e.2.1) (by decide)
   clear HB
   go_wp2
   go_ret
   exact saysP_f HN.out hb1
  | true =>
   have HT:Hid (∀ j,j<zs.length→0≤zs.getD j 0∧zs.getD j 0≤1000):=HB.out.1 rfl
   clear HB
   go_wp2_with fail
   refine (allUnlike_any a n c zs _ (H0.out.kept hb1) hn hc).mono ?_
   rintro e w2 ⟨rfl,rfl⟩
   have FIN:Hid (decide (unl zs)=true↔polsP zs):=⟨fun e=>⟨by rw [HL.out]; exact h6,HT.out,of_decide_eq_true e⟩,fun e=>decide_eq_true e.2.2⟩
   obtain ⟨d,hd⟩:∃ d,d=decide (unl zs):=⟨_,rfl⟩
   rw [← hd] at FIN ⊢
   clear hd
   go_wp2
   go_ret
   exact ⟨_,rfl,FIN,hb1⟩
 ·have h6':¬ (n:Int)≤6:=by omega
  have HN:Hid (¬ polsP zs):=fun e=>h6 (by rw [← HL.out]; exact e.1)
  go_enter Tryz.func97,Tryz.ntmps97
  go_wp2
  go_ret
  exact saysP_f HN.out (Below.refl _ _)
def mapP (p:Int × Int):Prop:=(1≤p.1∧p.1≤1000)∧(1≤p.2∧p.2≤1000)
instance (p:Int × Int):Decidable (mapP p):=by unfold mapP; infer_instance
theorem mapOk_any (p:Int × Int)(w:World):Calls Tryz.prog 179 #[pmv p] w fun e w'=>e=.returned (.bool (decide (mapP p)))∧Below w.heap.size w w':=by
 obtain ⟨x,y⟩:=p
 unfold pmv
 have hbl:Below w.heap.size w (w.alloc (.cells #[.int .i64 x,.int .i64 y] 115)):=(Below.refl _ _).alloc (Nat.le_refl _) _
 by_cases h1:1≤x∧x≤1000
 ·have HD:Hid (decide (1≤y∧y≤1000)=decide (mapP (x,y))):=by show _=_; exact decide_eq_decide.2 ⟨fun h=>⟨h1,h⟩,fun h=>h.2⟩
  have HD1:Hid (decide (1≤x∧x≤1000)=true):=decide_eq_true h1
  clear h1
  go_enter Tryz.func179,Tryz.ntmps179
  go_wp2_with fail
  refine (isPolicy_any x _).mono ?_
  rintro e w1 ⟨rfl,rfl⟩
  rw [HD1.out]
  go_wp2_with fail
  refine (isPolicy_any y _).mono ?_
  rintro e w1 ⟨rfl,rfl⟩
  rw [HD.out]
  obtain ⟨d,hd⟩:∃ d,d=decide (mapP (x,y)):=⟨_,rfl⟩
  rw [← hd]
  have HDD:Hid (d=decide (mapP (x,y))):=hd
  clear hd HD
  go_wp2
  go_ret
  exact ⟨by rw [← HDD.out]; rfl,hbl⟩
 ·have HD:Hid (decide (mapP (x,y))=false):=decide_eq_false (fun h=>h1 h.1)
  have HD1:Hid (decide (1≤x∧x≤1000)=false):=decide_eq_false h1
  clear h1
  go_enter Tryz.func179,Tryz.ntmps179
  go_wp2_with fail
  refine (isPolicy_any x _).mono ?_
  rintro e w1 ⟨rfl,rfl⟩
  rw [HD1.out]
  go_wp2
  go_ret
  exact ⟨by rw [HD.out]; rfl,hbl⟩
def mapsP (ps:List (Int × Int)):Prop:=∀ j,j<ps.length→mapP (ps.getD j (0,0))
theorem everyMap_any (a:Option Addr)(n c:Nat)(ps:List (Int × Int))(w:World)(h:Pms w a n ps) :
  Calls Tryz.prog 178 #[.slice a n c,.func (Fn.func 179) #[] #[]] w (SaysP (mapsP ps) w):=by
 have H0:Hid (Pms w a n ps):=h
 have HL:Hid (ps.length=n):=h.len
 have hn:=h.max
 clear h
 go_enter Tryz.func178,Tryz.ntmps178
 go_wp2
 go_loopw [9] (fun i wr=>∃ k:Nat,k≤n∧i=.int .i64 k∧Hid (∀ j,j<k→mapP (ps.getD j (0,0)))∧Below w.heap.size w wr) (fun i _=>n - (intOf i).toNat)
 case atStart=>exact ⟨0,Nat.zero_le _,rfl,fun k hk=>absurd hk (Nat.not_lt_zero _),Below.refl _ _⟩
 case round =>
  obtain ⟨k,hk,rfl,HE,hbr⟩:=hrel
  have hws:=hbr.size
  by_cases hlt:k<n
  ·obtain ⟨b,off,rfl,hlb,x0,x1⟩:=(H0.out.kept hbr).get k hlt
   obtain ⟨p,hp⟩:∃ p,p=ps.getD k (0,0):=⟨_,rfl⟩
   rw [← hp] at x0 x1
   have HP:Hid (p=ps.getD k (0,0)):=hp
   have hlti:(k:Int)<(n:Int):=by omega
   have hbz:Below wr.heap.size wr (wr.alloc (.cells #[.int .i64 p.1,.int .i64 p.2] 115)):=(Below.refl _ _).alloc (Nat.le_refl _) _
   clear hp
   go_wp2_with fail
   refine (mapOk_any p _).mono ?_
   rintro e w2 ⟨rfl,hb2⟩
   have B2:Below w.heap.size w w2:=keepP hbr (keepP hbz hb2)
   by_cases h0:mapP p
   ·rw [decide_eq_true h0]
    have HN:Hid (∀ j,j<k+1→mapP (ps.getD j (0,0))):=fun j hj=>by
     by_cases e:j<k
     ·exact HE.out j e
     ·obtain rfl:j=k:=by omega
      rw [← HP.out]; exact h0
    clear h0 HE hb2 hbz hbr x0 x1
    go_wp2
    go_roundw
    case rel=>exact ⟨k+1,by omega,by go_num,HN,B2⟩
    case measure=>simp [intOf]; omega
   ·rw [decide_eq_false h0]
    have HN:Hid (¬ mapsP ps):=fun e=>h0 (by rw [HP.out]; exact e k (by rw [HL.out]; exact hlt))
    clear h0 HE hb2 hbz hbr x0 x1
    go_wp2
    go_ret
    exact saysP_f HN.out B2
  ·obtain rfl:k=n:=by omega
   go_wp2
   go_ret
   exact saysP_t (fun j hj=>HE.out j (by rw [HL.out] at hj; exact hj)) hbr
theorem mapsOk_any (a:Option Addr)(n c:Nat)(ps:List (Int × Int))(w:World)(h:Pms w a n ps) :
  Calls Tryz.prog 147 #[.slice a n c] w (SaysP (ps.length≤6∧mapsP ps) w):=by
 have H0:Hid (Pms w a n ps):=h
 have HL:Hid (ps.length=n):=h.len
 have hn:=h.max
 clear h
 by_cases h6:n≤6
 ·have h6':(n:Int)≤6:=by omega
  go_enter Tryz.func147,Tryz.ntmps147
  go_wp2_with fail
  refine (everyMap_any a n c ps _ H0.out).mono ?_
  rintro e w1 ⟨b,rfl,HB,hb1⟩
  have FIN:Hid (b=true↔ps.length≤6∧mapsP ps):=⟨fun e=>⟨by rw [HL.out]; exact h6,HB.out.1 e⟩,fun e=>HB.out.2 e.2⟩
  go_wp2
  go_ret
  exact ⟨_,rfl,FIN,hb1⟩
 ·have h6':¬ (n:Int)≤6:=by omega
  have HN:Hid (¬ (ps.length≤6∧mapsP ps)):=fun e=>h6 (by rw [← HL.out]; exact e.1)
  go_enter Tryz.func147,Tryz.ntmps147
  go_wp2
  go_ret
  exact saysP_f HN.out (Below.refl _ _)
end Go.Proofs.YtmdfbnlgfhjnoaaGreatDoor
