import Derived.Test.YtnmplldhdfingaaGreatDoorFG11
import Derived.Test.YtnmplldhdfingaaGreatDoorFG14
set_option maxRecDepth 10000
set_option maxHeartbeats 8000000
set_option linter.unusedVariables false
namespace Go.Proofs.YtnmplldhdfingaaGreatDoor
open Go.RowKit
theorem wayUp_v (seed h next:Int)(N L:Nat)(l:Int)(w:World)(hx:U64 seed)(hN:HN h N)(hL:L<N)(hl:(L:Int)=l)(v:Int)(H:Nat)(hv:(lev (leavesN seed N) h.toNat).getD 0 0=v)(hH:h.toNat=H) :
  Calls Tryz.prog 200 #[.int .i64 N,.int .i64 l,.func (Fn.func 201) #[.agg #[.int .u64 seed,.int .i64 h,.int .i64 next]] #[]] w fun e w'=>∃ ap cp,e=.returned (.tuple #[.int .u64 v,.slice ap H cp])∧Hid (OwnU w.heap.size w' ap H cp (pathN (leavesN seed N) L H))∧Below w.heap.size w w':=by
 have h1:=wayUp_any seed h next N L w hx hN hL
 rw [hv,hH,hl] at h1
 exact h1
open Go.RowKit
theorem results_tk {fn:Func}{t:Tmp}(h:fn.results=#[.cell t 87])(tmps:Array Value)(g:Nat)(ht:tmps.getD t undef=.pointer (some ⟨g,0,none⟩))(w:World)(c0 c1 c2:Value)
  (hb:w.heap[g]? = some (.cells #[c0,c1,c2] 87 (0,0))):(results fn tmps).run Tryz.prog w=.ok (.agg #[c0,c1,c2]) w:=by
 have d0:w.cell? ⟨g,0,none⟩=some c0:=qk hb rfl
 have d1:w.cell? ⟨g,1,none⟩=some c1:=qk hb rfl
 have d2:w.cell? ⟨g,2,none⟩=some c2:=qk hb rfl
 clear hb
 have ht':tmps[t]?.getD undef=.pointer (some ⟨g,0,none⟩):=by rw [← ht]; simp
 simp [results,h,go_sem,ht',d0,d1,d2]
theorem alloc_oldT (w:World)(o:Obj)(g:Nat)(hg:g<w.heap.size):(w.alloc o).heap[g]? = w.heap[g]?:=((Below.refl w.heap.size w).alloc (Nat.le_refl _) o).block g hg
open Go.RowKit
theorem wsz_at (n:Int)(k:Nat)(h0:1≤k)(h1:k<8):∃ H:Int,wrap64 (2 ^ (8 * k - 1))=H∧wrap64 (-2 ^ (8 * k - 1)) = -H∧(wsz n≤k↔-H≤n∧n<H):=by
 rcases (show k=1∨k=2∨k=3∨k=4∨k=5∨k=6∨k=7 by omega) with rfl | rfl | rfl | rfl | rfl | rfl | rfl
 ·exact ⟨128,by decide +kernel,by decide +kernel,wsz_le1 n⟩
 ·exact ⟨32768,by decide +kernel,by decide +kernel,wsz_le2 n⟩
 ·exact ⟨8388608,by decide +kernel,by decide +kernel,wsz_le3 n⟩
 ·exact ⟨2147483648,by decide +kernel,by decide +kernel,wsz_le4 n⟩
 ·exact ⟨549755813888,by decide +kernel,by decide +kernel,wsz_le5 n⟩
 ·exact ⟨140737488355328,by decide +kernel,by decide +kernel,wsz_le6 n⟩
 ·exact ⟨36028797018963968,by decide +kernel,by decide +kernel,wsz_le7 n⟩
theorem wb_at (n:Int)(q:Nat)(h:q≤7):n / 2 ^ (8 * q) % 256=(wb8 n).getD (7 - q) 0:=by
 match q,h with
 | 0,_=>simp [wb8]
 | 1,_=>simp [wb8]
 | 2,_=>simp [wb8]
 | 3,_=>simp [wb8]
 | 4,_=>simp [wb8]
 | 5,_=>simp [wb8]
 | 6,_=>simp [wb8]
 | 7,_=>simp [wb8]
def wbP (n:Int)(k q:Nat):List Int:=((wb8 n).drop (8 - k)).take (k - q)
theorem wbP_next (n:Int)(k q:Nat)(hk:k≤8)(hq:q<k):wbP n k (q+1)++[(wb8 n).getD (7 - q) 0]=wbP n k q:=by
 unfold wbP
 have hl:k - (q+1)<((wb8 n).drop (8 - k)).length:=by rw [List.length_drop,wb8_len]; omega
 rw [show k - q=k - (q+1)+1 by omega,take_snoc _ _ hl]
 congr 2
 rw [List.getD_eq_getElem?_getD,List.getD_eq_getElem?_getD,List.getElem?_drop,show 8 - k+(k - (q+1))=7 - q by omega]
theorem l3Number_any (n:Int)(w:World) :
  Calls Tryz.prog 97 #[.int .i64 n] w fun e w'=>∃ a c,e=.returned (.slice a (wsz n) c)∧Own w.heap.size w' a (wsz n) c (wbL n)∧Below w.heap.size w w':=by
 obtain ⟨i0,hi,hz0,hz1,hz2⟩:=info_parts Tryz.info5
 have HOE:Hid (_):=own_empty w
 have HBE:Hid (Below w.heap.size w (w.alloc (.cells #[] 5))):=(Below.refl _ _).alloc (Nat.le_refl _) _
 have hsz:=wsz_bd n
 go_enter Tryz.func97,Tryz.ntmps97
 go_wp2
 go_loopw [3] (fun s wr=>∃ k:Nat,k≤8∧1≤k∧s=.int .i64 k∧Hid (k≤wsz n)∧w=wr) (fun s _=>8 - (intOf s).toNat)
 case atStart=>exact ⟨1,by decide,by decide,rfl,hsz.1,rfl⟩
 case round =>
  obtain ⟨k,hk,hk1,rfl,HK,rfl⟩:=hrel
  by_cases hgo:k<8∧¬ wsz n≤k
  ·obtain ⟨H,hp,hn,hiff⟩:=wsz_at n k hk1 hgo.1
   have hk8i:(k:Int)<8:=by omega
   have HN:Hid (k+1≤wsz n):=by show _≤_; omega
   by_cases hH:H≤n
   ·clear hiff hgo
    go_wp2
    go_roundw
    case rel=>exact ⟨k+1,by omega,by omega,by go_num,HN,by first | rfl | trivial⟩
    case measure=>simp [intOf]; omega
   ·have hH2:n < -H:=by
     have h:=hgo.2
     rw [hiff] at h
     omega
    clear hiff hgo
    go_wp2
    go_roundw
    case rel=>exact ⟨k+1,by omega,by omega,by go_num,HN,by first | rfl | trivial⟩
    case measure=>simp [intOf]; omega
  ·have hex:k=wsz n:=by have:=HK.out; omega
   have HX:Hid (k=wsz n):=hex
   have tail:∀ (W:World),W=w.alloc (.cells #[] 5)→Own w.heap.size W (some ⟨w.heap.size,0,none⟩) 0 0 (wbP n k k)∧Below w.heap.size w W:=by
    intro W hW
    have e:wbP n k k = []:=by unfold wbP; simp
    rw [hW,e]
    exact ⟨HOE.out,HBE.out⟩
   have TAIL:Hid (_):=tail
   clear tail hex
   by_cases hk8:k<8
   ·obtain ⟨H,hp,hn,hiff⟩:=wsz_at n k hk1 hk8
    have hk8i:(k:Int)<8:=by omega
    have hH:¬ H≤n:=by have:=hiff.1 (by omega); omega
    have hH2:¬ n < -H:=by have:=hiff.1 (by omega); omega
    clear hiff hgo
    go_wp2
    go_loopw [4,5] (fun o i wr=>∃ (a:Option Addr) (q len cap:Nat),q≤k∧len=k - q∧i=.int .i64 ((q:Int) - 1)∧o=.slice a len cap∧Own w.heap.size wr a len cap (wbP n k q)∧Below w.heap.size w wr) (fun _ i _=>((intOf i)+1).toNat)
    case atStart=>exact ⟨_,k,0,0,Nat.le_refl _,by omega,rfl,rfl,(TAIL.out _ rfl).1,(TAIL.out _ rfl).2⟩
    case round =>
     obtain ⟨a,q,len,cap,hq,hle,rfl,rfl,hor,hbr⟩:=hrel
     have HLe:Hid (len=k - q):=hle
     clear hle
     rcases q with _ | q
     ·go_wp2
      go_ret
      have hlk:k=len:=by have:=HLe.out; omega
      subst hlk
      have e:wbP n k 0=wbL n:=by unfold wbP wbL; rw [← HX.out,List.take_of_length_le (by rw [List.length_drop,wb8_len]; omega)]
      rw [e] at hor
      exact ⟨_,_,by rw [← HX.out]; rfl,by rw [← HX.out]; exact hor,hbr⟩
     ·have e1:((q+1:Nat):Int) - 1=(q:Int):=by omega
      rw [e1]
      clear e1
      have hl9:len≤9:=by have:=HLe.out; omega
      have hq7:q≤7:=by omega
      have hws:w.heap.size≤wr.heap.size:=hbr.size
      have HE:Hid (_=_):=wb_at n q hq7
      go_wp2_with (at_builtin; go_loud (refine wpList_append_own _ rfl _ _ 26 rfl w.heap.size 5 i0 (.int .u8 0) 1 1 Tryz.underlying26 hi hz0 hz1 hz2 rfl (by decide) _ _ _ rfl (hor.row.alloc _) ⟨wr.heap.size,0,none⟩ 1 1 [_] rfl rfl (cell_one_new _ _ _) (by intro u hu; simp at hu; subst hu; rfl) (by unfold maxLen; omega) (by omega) (by simp; omega) ?_); intro v' w1 hown' hgrow' _)
      have hb1:Below w.heap.size w w1:=below_appended (hbr.alloc hws _) (by simp; omega) (hor.row.alloc _) hgrow'
      rw [HE.out] at hown'
      obtain ⟨a',cap',rfl,ho⟩:=own_appended (ys:=[(wb8 n).getD (7 - q) 0]) hown' hor.byte (by simpa using snoc_byte (xs:=[]) (by simp) _ (wb8_byte n (7 - q)))
      rw [wbP_next n k q (by omega) (by omega)] at ho
      go_roundw
      case rel=>exact ⟨a',q,len+1,cap',by omega,by have:=HLe.out; omega,rfl,rfl,ho,hb1⟩
      case measure=>simp [intOf]
   ·have hk8i:¬ (k:Int)<8:=by omega
    clear hgo
    go_wp2
    go_loopw [4,5] (fun o i wr=>∃ (a:Option Addr) (q len cap:Nat),q≤k∧len=k - q∧i=.int .i64 ((q:Int) - 1)∧o=.slice a len cap∧Own w.heap.size wr a len cap (wbP n k q)∧Below w.heap.size w wr) (fun _ i _=>((intOf i)+1).toNat)
    case atStart=>exact ⟨_,k,0,0,Nat.le_refl _,by omega,rfl,rfl,(TAIL.out _ rfl).1,(TAIL.out _ rfl).2⟩
    case round =>
     obtain ⟨a,q,len,cap,hq,hle,rfl,rfl,hor,hbr⟩:=hrel
     have HLe:Hid (len=k - q):=hle
     clear hle
     rcases q with _ | q
     ·go_wp2
      go_ret
      have hlk:k=len:=by have:=HLe.out; omega
      subst hlk
      have e:wbP n k 0=wbL n:=by unfold wbP wbL; rw [← HX.out,List.take_of_length_le (by rw [List.length_drop,wb8_len]; omega)]
      rw [e] at hor
      exact ⟨_,_,by rw [← HX.out]; rfl,by rw [← HX.out]; exact hor,hbr⟩
     ·have e1:((q+1:Nat):Int) - 1=(q:Int):=by omega
      rw [e1]
      clear e1
      have hl9:len≤9:=by have:=HLe.out; omega
      have hq7:q≤7:=by omega
      have hws:w.heap.size≤wr.heap.size:=hbr.size
      have HE:Hid (_=_):=wb_at n q hq7
      go_wp2_with (at_builtin; go_loud (refine wpList_append_own _ rfl _ _ 26 rfl w.heap.size 5 i0 (.int .u8 0) 1 1 Tryz.underlying26 hi hz0 hz1 hz2 rfl (by decide) _ _ _ rfl (hor.row.alloc _) ⟨wr.heap.size,0,none⟩ 1 1 [_] rfl rfl (cell_one_new _ _ _) (by intro u hu; simp at hu; subst hu; rfl) (by unfold maxLen; omega) (by omega) (by simp; omega) ?_); intro v' w1 hown' hgrow' _)
      have hb1:Below w.heap.size w w1:=below_appended (hbr.alloc hws _) (by simp; omega) (hor.row.alloc _) hgrow'
      rw [HE.out] at hown'
      obtain ⟨a',cap',rfl,ho⟩:=own_appended (ys:=[(wb8 n).getD (7 - q) 0]) hown' hor.byte (by simpa using snoc_byte (xs:=[]) (by simp) _ (wb8_byte n (7 - q)))
      rw [wbP_next n k q (by omega) (by omega)] at ho
      go_roundw
      case rel=>exact ⟨a',q,len+1,cap',by omega,by have:=HLe.out; omega,rfl,rfl,ho,hb1⟩
      case measure=>simp [intOf]
end Go.Proofs.YtnmplldhdfingaaGreatDoor
