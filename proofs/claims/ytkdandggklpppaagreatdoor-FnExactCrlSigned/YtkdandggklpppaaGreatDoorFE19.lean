import Derived.Test.YtkdandggklpppaaGreatDoorFE16
import Derived.Test.YtkdandggklpppaaGreatDoorFE18
set_option maxRecDepth 10000
set_option maxHeartbeats 8000000
set_option linter.unusedVariables false
namespace Go.Proofs.YtkdandggklpppaaGreatDoor
open Go.RowKit
theorem wsz_at (n:Int)(k:Nat)(h0:1≤k)(h1:k<8):∃ H:Int,wrap64 (2 ^ (8 * k - 1))=H∧wrap64 (-2 ^ (8 * k - 1)) = -H∧(wsz n≤k↔-H≤n∧n<H):=by
 rcases (show k=1∨k=2∨k=3∨k=4∨k=5∨k=6∨k=7 by omega) with rfl | rfl | rfl | rfl | rfl | rfl | rfl
 ·exact ⟨128,by decide +kernel,by decide +kernel,wsz_le1 n⟩
 ·exact ⟨32768,by decide +kernel,by decide +kernel,wsz_le2 n⟩
 ·exact ⟨8388608,by decide +kernel,by decide +kernel,wsz_le3 n⟩
 ·exact ⟨2147483648,by decide +kernel,by decide +kernel,wsz_le4 n⟩
 ·exact ⟨549755813888,by decide +kernel,by decide +kernel,wsz_le5 n⟩
 ·exact ⟨140737488355328,by decide +kernel,by decide +kernel,wsz_le6 n⟩
 ·exact ⟨36028797018963968,by decide +kernel,by decide +kernel,wsz_le7 n⟩
theorem wb_at (n:Int)(q:Nat)(h:q≤7):n / 2 ^ (8 * q) % 256=(wb8 n).getD (7 - q) 0:=by
 match q,h with
 | 0,_=>simp [wb8]
 | 1,_=>simp [wb8]
 | 2,_=>simp [wb8]
 | 3,_=>simp [wb8]
 | 4,_=>simp [wb8]
 | 5,_=>simp [wb8]
 | 6,_=>simp [wb8]
 | 7,_=>simp [wb8]
def wbP (n:Int)(k q:Nat):List Int:=((wb8 n).drop (8 - k)).take (k - q)
theorem wbP_next (n:Int)(k q:Nat)(hk:k≤8)(hq:q<k):wbP n k (q+1)++[(wb8 n).getD (7 - q) 0]=wbP n k q:=by
 unfold wbP
 have hl:k - (q+1)<((wb8 n).drop (8 - k)).length:=by rw [List.length_drop,wb8_len]; omega
 rw [show k - q=k - (q+1)+1 by omega,take_snoc _ _ hl]
 congr 2
 rw [List.getD_eq_getElem?_getD,List.getD_eq_getElem?_getD,List.getElem?_drop,show 8 - k+(k - (q+1))=7 - q by omega]
theorem l3Number_any (n:Int)(w:World) :
  Calls Tryz.prog 73 #[.int .i64 n] w fun e w'=>∃ a c,e=.returned (.slice a (wsz n) c)∧Own w.heap.size w' a (wsz n) c (wbL n)∧Below w.heap.size w w':=by
 obtain ⟨i0,hi,hz0,hz1,hz2⟩:=info_parts Tryz.info5
 have HOE:Hid (_):=own_empty w
 have HBE:Hid (Below w.heap.size w (w.alloc (.cells #[] 5))):=(Below.refl _ _).alloc (Nat.le_refl _) _
 have hsz:=wsz_bd n
 go_enter Tryz.func73,Tryz.ntmps73
 go_wp2
 go_loopw [3] (fun s wr=>∃ k:Nat,k≤8∧1≤k∧s=.int .i64 k∧Hid (k≤wsz n)∧w=wr) (fun s _=>8 - (intOf s).toNat)
 case atStart=>exact ⟨1,by decide,by decide,rfl,hsz.1,rfl⟩
 case round =>
  obtain ⟨k,hk,hk1,rfl,HK,rfl⟩:=hrel
  by_cases hgo:k<8∧¬ wsz n≤k
  ·obtain ⟨H,hp,hn,hiff⟩:=wsz_at n k hk1 hgo.1
   have hk8i:(k:Int)<8:=by omega
   have HN:Hid (k+1≤wsz n):=by show _≤_; omega
   by_cases hH:H≤n
   ·clear hiff hgo
    go_wp2
    go_roundw
    case rel=>exact ⟨k+1,by omega,by omega,by go_num,HN,by first | rfl | trivial⟩
    case measure=>simp [intOf]; omega
   ·have hH2:n < -H:=by
     have h:=hgo.2
     rw [hiff] at h
     omega
    clear hiff hgo
    go_wp2
    go_roundw
    case rel=>exact ⟨k+1,by omega,by omega,by go_num,HN,by first | rfl | trivial⟩
    case measure=>simp [intOf]; omega
  ·have hex:k=wsz n:=by have:=HK.out; omega
   have HX:Hid (k=wsz n):=hex
   have tail:∀ (W:World),W=w.alloc (.cells #[] 5)→Own w.heap.size W (some ⟨w.heap.size,0,none⟩) 0 0 (wbP n k k)∧Below w.heap.size w W:=by
    intro W hW
    have e:wbP n k k = []:=by unfold wbP; simp
    rw [hW,e]
    exact ⟨HOE.out,HBE.out⟩
   have TAIL:Hid (_):=tail
   clear tail hex
   by_cases hk8:k<8
   ·obtain ⟨H,hp,hn,hiff⟩:=wsz_at n k hk1 hk8
    have hk8i:(k:Int)<8:=by omega
    have hH:¬ H≤n:=by have:=hiff.1 (by omega); omega
    have hH2:¬ n < -H:=by have:=hiff.1 (by omega); omega
    clear hiff hgo
    go_wp2
    go_loopw [4,5] (fun o i wr=>∃ (a:Option Addr) (q len cap:Nat),q≤k∧len=k - q∧i=.int .i64 ((q:Int) - 1)∧o=.slice a len cap∧Own w.heap.size wr a len cap (wbP n k q)∧Below w.heap.size w wr) (fun _ i _=>((intOf i)+1).toNat)
    case atStart=>exact ⟨_,k,0,0,Nat.le_refl _,by omega,rfl,rfl,(TAIL.out _ rfl).1,(TAIL.out _ rfl).2⟩
    case round =>
     obtain ⟨a,q,len,cap,hq,hle,rfl,rfl,hor,hbr⟩:=hrel
     have HLe:Hid (len=k - q):=hle
     clear hle
     rcases q with _ | q
     ·go_wp2
      go_ret
      have hlk:k=len:=by have:=HLe.out; omega
      subst hlk
      have e:wbP n k 0=wbL n:=by unfold wbP wbL; rw [← HX.out,List.take_of_length_le (by rw [List.length_drop,wb8_len]; omega)]
      rw [e] at hor
      exact ⟨_,_,by rw [← HX.out]; rfl,by rw [← HX.out]; exact hor,hbr⟩
     ·have e1:((q+1:Nat):Int) - 1=(q:Int):=by omega
      rw [e1]
      clear e1
      have hl9:len≤9:=by have:=HLe.out; omega
      have hq7:q≤7:=by omega
      have hws:w.heap.size≤wr.heap.size:=hbr.size
      have HE:Hid (_=_):=wb_at n q hq7
      go_wp2_with (at_builtin; go_loud (refine wpList_append_own _ rfl _ _ 26 rfl w.heap.size 5 i0 (.int .u8 0) 1 1 Tryz.underlying26 hi hz0 hz1 hz2 rfl (by decide) _ _ _ rfl (hor.row.alloc _) ⟨wr.heap.size,0,none⟩ 1 1 [_] rfl rfl (cell_one_new _ _ _) (by intro u hu; simp at hu; subst hu; rfl) (by unfold maxLen; omega) (by omega) (by simp; omega) ?_); intro v' w1 hown' hgrow' _)
      have hb1:Below w.heap.size w w1:=below_appended (hbr.alloc hws _) (by simp; omega) (hor.row.alloc _) hgrow'
      rw [HE.out] at hown'
      obtain ⟨a',cap',rfl,ho⟩:=own_appended (ys:=[(wb8 n).getD (7 - q) 0]) hown' hor.byte (by simpa using snoc_byte (xs:=[]) (by simp) _ (wb8_byte n (7 - q)))
      rw [wbP_next n k q (by omega) (by omega)] at ho
      go_roundw
      case rel=>exact ⟨a',q,len+1,cap',by omega,by have:=HLe.out; omega,rfl,rfl,ho,hb1⟩
      case measure=>simp [intOf]
   ·have hk8i:¬ (k:Int)<8:=by omega
    clear hgo
    go_wp2
    go_loopw [4,5] (fun o i wr=>∃ (a:Option Addr) (q len cap:Nat),q≤k∧len=k - q∧i=.int .i64 ((q:Int) - 1)∧o=.slice a len cap∧Own w.heap.size wr a len cap (wbP n k q)∧Below w.heap.size w wr) (fun _ i _=>((intOf i)+1).toNat)
    case atStart=>exact ⟨_,k,0,0,Nat.le_refl _,by omega,rfl,rfl,(TAIL.out _ rfl).1,(TAIL.out _ rfl).2⟩
    case round =>
     obtain ⟨a,q,len,cap,hq,hle,rfl,rfl,hor,hbr⟩:=hrel
     have HLe:Hid (len=k - q):=hle
     clear hle
     rcases q with _ | q
     ·go_wp2
      go_ret
      have hlk:k=len:=by have:=HLe.out; omega
      subst hlk
      have e:wbP n k 0=wbL n:=by unfold wbP wbL; rw [← HX.out,List.take_of_length_le (by rw [List.length_drop,wb8_len]; omega)]
      rw [e] at hor
      exact ⟨_,_,by rw [← HX.out]; rfl,by rw [← HX.out]; exact hor,hbr⟩
     ·have e1:((q+1:Nat):Int) - 1=(q:Int):=by omega
      rw [e1]
      clear e1
      have hl9:len≤9:=by have:=HLe.out; omega
      have hq7:q≤7:=by omega
      have hws:w.heap.size≤wr.heap.size:=hbr.size
      have HE:Hid (_=_):=wb_at n q hq7
      go_wp2_with (at_builtin; go_loud (refine wpList_append_own _ rfl _ _ 26 rfl w.heap.size 5 i0 (.int .u8 0) 1 1 Tryz.underlying26 hi hz0 hz1 hz2 rfl (by decide) _ _ _ rfl (hor.row.alloc _) ⟨wr.heap.size,0,none⟩ 1 1 [_] rfl rfl (cell_one_new _ _ _) (by intro u hu; simp at hu; subst hu; rfl) (by unfold maxLen; omega) (by omega) (by simp; omega) ?_); intro v' w1 hown' hgrow' _)
      have hb1:Below w.heap.size w w1:=below_appended (hbr.alloc hws _) (by simp; omega) (hor.row.alloc _) hgrow'
      rw [HE.out] at hown'
      obtain ⟨a',cap',rfl,ho⟩:=own_appended (ys:=[(wb8 n).getD (7 - q) 0]) hown' hor.byte (by simpa using snoc_byte (xs:=[]) (by simp) _ (wb8_byte n (7 - q)))
      rw [wbP_next n k q (by omega) (by omega)] at ho
      go_roundw
      case rel=>exact ⟨a',q,len+1,cap',by omega,by have:=HLe.out; omega,rfl,rfl,ho,hb1⟩
      case measure=>simp [intOf]
open Go.RowKit
theorem results_it {fn:Func}{t:Tmp}(h:fn.results=#[.cell t 81])(tmps:Array Value)(g:Nat)(ht:tmps.getD t undef=.pointer (some ⟨g,0,none⟩))(w:World)(c0 c1 c2 c3 c4:Value)
  (hb:w.heap[g]? = some (.cells #[c0,c1,c2,c3,c4] 81 (0,0))):(results fn tmps).run Tryz.prog w=.ok (.agg #[c0,c1,c2,c3,c4]) w:=by
 have d0:w.cell? ⟨g,0,none⟩=some c0:=(cell_of_row _ g 0 _ 81 (0,0) hb).trans rfl
 have d1:w.cell? ⟨g,1,none⟩=some c1:=(cell_of_row _ g 1 _ 81 (0,0) hb).trans rfl
 have d2:w.cell? ⟨g,2,none⟩=some c2:=(cell_of_row _ g 2 _ 81 (0,0) hb).trans rfl
 have d3:w.cell? ⟨g,3,none⟩=some c3:=(cell_of_row _ g 3 _ 81 (0,0) hb).trans rfl
 have d4:w.cell? ⟨g,4,none⟩=some c4:=(cell_of_row _ g 4 _ 81 (0,0) hb).trans rfl
 clear hb
 have ht':tmps[t]?.getD undef=.pointer (some ⟨g,0,none⟩):=by rw [← ht]; simp
 simp [results,h,go_sem,ht',d0,d1,d2,d3,d4]
def put5I (w:World)(g:Nat)(u0 u1 u2 u3 u4:Value):World:=((((w.setCell ⟨g,0,none⟩ u0).setCell ⟨g,1,none⟩ u1).setCell ⟨g,2,none⟩ u2).setCell ⟨g,3,none⟩ u3).setCell ⟨g,4,none⟩ u4
theorem put5_heap {w:World}{g t:Nat}{c0 c1 c2 c3 c4:Value}(h:w.heap[g]? = some (.cells #[c0,c1,c2,c3,c4] t (0,0)))(u0 u1 u2 u3 u4:Value):(put5I w g u0 u1 u2 u3 u4).heap[g]? = some (.cells #[u0,u1,u2,u3,u4] t (0,0)) :=
 heap_setCell_same _ _ 4 _ t _ (heap_setCell_same _ _ 3 _ t _ (heap_setCell_same _ _ 2 _ t _ (heap_setCell_same _ _ 1 _ t _ (heap_setCell_same _ _ 0 _ t _ h))))
theorem touch_set {p q:Nat}(w:World)(g j:Nat)(u:Value)(h1:p≤g)(h2:g<q):Touch p q w (w.setCell ⟨g,j,none⟩ u) :=
 ⟨rfl,rfl,rfl,by simp,fun k _ hk=>heap_setCell_other w ⟨g,j,none⟩ k u (by simp; omega)⟩
theorem touch_set1 (w:World)(g j:Nat)(u:Value):Touch g (g+1) w (w.setCell ⟨g,j,none⟩ u):=touch_set w g j u (Nat.le_refl _) (Nat.lt_succ_self _)
theorem put5_touch (w:World)(g:Nat)(u0 u1 u2 u3 u4:Value):Touch g (g+1) w (put5I w g u0 u1 u2 u3 u4) :=
 ((((touch_set1 w g 0 u0).trans (touch_set1 _ g 1 u1)).trans (touch_set1 _ g 2 u2)).trans (touch_set1 _ g 3 u3)).trans (touch_set1 _ g 4 u4)
structure Box5 (w:World)(g:Nat):Prop where
 b:w.heap[g]? = some (.cells #[.int .i64 0,.int .i64 0,.bool false,.slice none 0 0,.slice none 0 0] 81 (0,0))
 c0:w.cell? ⟨g,0,none⟩=some (.int .i64 0)
 c1:w.cell? ⟨g,1,none⟩=some (.int .i64 0)
 c2:w.cell? ⟨g,2,none⟩=some (.bool false)
 c3:w.cell? ⟨g,3,none⟩=some (.slice none 0 0)
 c4:w.cell? ⟨g,4,none⟩=some (.slice none 0 0)
 f0:w.frozen? ⟨g,0,none⟩=false
 f1:w.frozen? ⟨g,1,none⟩=false
 f2:w.frozen? ⟨g,2,none⟩=false
 f3:w.frozen? ⟨g,3,none⟩=false
 f4:w.frozen? ⟨g,4,none⟩=false
theorem Box5.of {w:World}{g:Nat}(h:w.heap[g]? = some (.cells #[.int .i64 0,.int .i64 0,.bool false,.slice none 0 0,.slice none 0 0] 81 (0,0))):Box5 w g :=
 ⟨h,(cell_of_row _ g 0 _ 81 (0,0) h).trans rfl,(cell_of_row _ g 1 _ 81 (0,0) h).trans rfl,(cell_of_row _ g 2 _ 81 (0,0) h).trans rfl,(cell_of_row _ g 3 _ 81 (0,0) h).trans rfl,(cell_of_row _ g 4 _ 81 (0,0) h).trans rfl,
  frozen_of_row w g 0 _ 81 h,frozen_of_row w g 1 _ 81 h,frozen_of_row w g 2 _ 81 h,frozen_of_row w g 3 _ 81 h,frozen_of_row w g 4 _ 81 h⟩
def box5 (w:World):World:=w.alloc (.cells #[.int .i64 0,.int .i64 0,.bool false,.slice none 0 0,.slice none 0 0] 81)
theorem box5_new (w:World):(box5 w).heap[w.heap.size]? = some (.cells #[.int .i64 0,.int .i64 0,.bool false,.slice none 0 0,.slice none 0 0] 81 (0,0)):=heap_alloc_new w _
theorem box5_below (w:World):Below w.heap.size w (box5 w):=(Below.refl _ _).alloc (Nat.le_refl _) _
theorem box5_size (w:World):(box5 w).heap.size=w.heap.size+1:=by unfold box5; simp
def numI (n:Int):It:=.mk 0 2 false (wbL n) []
def bytI (bs:List Int):It:=.mk 0 4 false bs []
def boxI (tag:Int)(ks:List It):It:=.mk 1 tag true [] ks
theorem ownItem_any (tag:Int)(a:Option Addr)(n c:Nat)(ks:List It)(w:World) :
  Calls Tryz.prog 52 #[.int .i64 tag,.slice a n c] w fun e w'=>e=.returned (itv (boxI tag ks) none 0 0 a n c)∧Below w.heap.size w w':=by
 go_enter Tryz.func52,Tryz.ntmps52
 go_wp2_with fail
 try simp only [Exit.inBlock,Exit.then]
 exact bodyPost_ret (results_it rfl _ w.heap.size rfl _ _ _ _ _ _ (heap_alloc_new w _)) rfl ⟨rfl,(Below.refl _ _).alloc (Nat.le_refl _) _⟩
theorem bytesItem_any (a:Option Addr)(n c:Nat)(bs:List Int)(w:World) :
  Calls Tryz.prog 115 #[.slice a n c] w fun e w'=>e=.returned (itv (bytI bs) a n c none 0 0)∧Below w.heap.size w w':=by
 go_enter Tryz.func115,Tryz.ntmps115
 go_wp2_with fail
 try simp only [Exit.inBlock,Exit.then]
 exact bodyPost_ret (results_it rfl _ w.heap.size rfl _ _ _ _ _ _ (heap_alloc_new w _)) rfl ⟨rfl,(Below.refl _ _).alloc (Nat.le_refl _) _⟩
theorem in_at {g k n lo hi:Nat}(h1:lo≤g)(h2:g<hi):In (some ⟨g,k,none⟩) n lo hi:=by
 intro b off ha _
 simp at ha
 omega
theorem Row.blk {w:World}{g k n:Nat}{bs:List Int}(h:Row w (some ⟨g,k,none⟩) n bs)(hn:0<n):g<w.heap.size:=by
 obtain ⟨b,off,ha,hb,_⟩:=h.get 0 hn
 simp at ha
 omega
theorem numberItem_any (n:Int)(w:World)(h0 : -9223372036854775808≤n)(h1:n≤9223372036854775807) :
  Calls Tryz.prog 54 #[.int .i64 n] w fun e w'=>∃ g k,e=.returned (itv (numI n) (some ⟨g,k,none⟩) (wsz n) (wsz n) none 0 0)∧w.heap.size≤g∧Row w' (some ⟨g,k,none⟩) (wsz n) (wbL n)∧Below w.heap.size w w':=by
 have hsz:=wsz_bd n
 go_enter Tryz.func54,Tryz.ntmps54
 go_wp2_with fail
 have hbx:=box5_below w
 have hnx:=box5_new w
 have hsx:=box5_size w
 obtain ⟨wb,hwb⟩:∃ wb,wb=box5 w:=⟨_,rfl⟩
 rw [← hwb] at hbx hnx hsx
 unfold box5 at hwb
 rw [← hwb]
 clear hwb
 refine (wholeBytes_any n _ h0 h1).mono ?_
 rintro e w1 ⟨g,k,rfl,hg,hr,hb1⟩
 have hn1:=(hb1.block _ (by omega)).trans hnx
 have B1:Below w.heap.size w w1:=hbx.trans (hb1.mono hbx.size)
 obtain ⟨_,x0,x1,x2,x3,x4,y0,y1,y2,y3,y4⟩:=Box5.of hn1
 have HR:Hid (Row w1 (some ⟨g,k,none⟩) (wsz n) (wbL n)):=hr
 have HN:Hid (_):=hn1
 have HB:Hid (Below w.heap.size w w1):=B1
 have hgl:=hr.blk (by omega)
 have hs1:=hb1.size
 clear hr hn1 B1 hb1 hnx hbx
 go_wp2_with fail
 try simp only [Exit.inBlock,Exit.then]
 refine bodyPost_ret (results_it rfl _ w.heap.size rfl _ _ _ _ _ _ (put5_heap HN.out _ _ _ _ _)) rfl ⟨g,k,rfl,by omega,?_,?_⟩
 ·exact HR.out.touch (in_at (lo:=g) (hi:=g+1) (Nat.le_refl _) (by omega)) (.inr (by omega)) (put5_touch w1 w.heap.size _ _ _ _ _)
 ·exact HB.out.trans ((put5_touch w1 w.heap.size _ _ _ _ _).below (Nat.le_refl _) (by omega))
theorem Own.touch5 {B lo hi:Nat}{w w':World}{a:Option Addr}{n cap:Nat}{bs:List Int}(h:Own B w a n cap bs)(ht:Touch lo hi w w')(hd:hi≤B):Own B w' a n cap bs:=by
 refine ⟨⟨h.row.1,?_⟩,h.byte⟩
 rcases h.row.2 with hn' | ⟨g,cap',cur,hv,hbb,hgg,rest⟩
 ·exact .inl hn'
 ·exact .inr ⟨g,cap',cur,hv,hbb,(ht.block g (Array.getElem?_eq_some_iff.1 hgg).1 (by omega)).trans hgg,rest⟩
theorem l2Leaf_any (tag:Int)(a:Option Addr)(n c:Nat)(bs:List Int)(w:World)(h:Row w a n bs)(hc:a=none→c=0)(hn:n≤1000) :
  Calls Tryz.prog 72 #[.int .i64 0,.int .i64 tag,.slice a n c] w fun e w'=>∃ a' c',e=.returned (itv (.mk 0 tag false bs []) a' n c' none 0 0)∧Own (w.heap.size+1) w' a' n c' bs∧Below w.heap.size w w':=by
 obtain ⟨i0,hi,hz0,hz1,hz2⟩:=info_parts Tryz.info5
 have hbx:=box5_below w
 have hnx:=box5_new w
 have hsx:=box5_size w
 have hal:Below (box5 w).heap.size (box5 w) ((box5 w).alloc (.cells #[] 5)):=(Below.refl _ _).alloc (Nat.le_refl _) _
 have hor0:Own (w.heap.size+1) ((box5 w).alloc (.cells #[] 5)) (some ⟨w.heap.size+1,0,none⟩) 0 0 []:=own_zero _ _ _ (by rw [hsx]) (by rw [hsx]; exact Nat.le_refl _)
 have hB1:Below w.heap.size w ((box5 w).alloc (.cells #[] 5)):=hbx.trans (hal.mono hbx.size)
 have hn1:=(hal.block _ (by omega)).trans hnx
 have HR:Hid (Row ((box5 w).alloc (.cells #[] 5)) a n bs):=h.kept (hB1.mono (Nat.le_refl _))
 have HN:Hid (_):=hn1
 have hsz1:((box5 w).alloc (.cells #[] 5)).heap.size=w.heap.size+2:=by simp [hsx]
 have HO:Hid (_):=hor0
 have HB1:Hid (_):=hB1
 clear h hal hbx hnx hn1 hor0 hB1
 unfold box5 at HR HN HO HB1 hsz1 hsx
 go_enter Tryz.func72,Tryz.ntmps72
 go_wp2_with (at_builtin; refine wpList_append_row _ rfl (.tmp 9) (.tmp 10) 26 rfl (w.heap.size+1) i0 Tryz.underlying26 hi hz0 hz1 hz2 _ _ _ rfl HO.out.row a n c bs rfl HR.out hc (by omega) (by rw [hsz1]; omega) ?_; intro v1 w1 hv1 hg1; obtain ⟨a1,c1,rfl,ho1⟩:=own_appended (xs:=[]) (ys:=bs) hv1 HO.out.byte HR.out.byte; have hb1:Below w.heap.size w w1:=below_appended HB1.out HB1.out.size (HO.out.mono (by omega)).row hg1; have ho1':Own (w.heap.size+1) w1 a1 n c1 bs:=(by simpa using ho1); have hn2:w1.heap[w.heap.size]? = some (.cells #[.int .i64 0,.int .i64 0,.bool false,.slice none 0 0,.slice none 0 0] 81 (0,0)):=(hg1.block w.heap.size (by rw [hsz1]; omega) (by show some w.heap.size≠some (w.heap.size+1); simp)).trans HN.out; obtain ⟨_,x0,x1,x2,x3,x4,y0,y1,y2,y3,y4⟩:=Box5.of hn2; have HN2:Hid (_):=hn2; have HB2:Hid (Below w.heap.size w w1):=hb1; have HO2:Hid (Own (w.heap.size+1) w1 a1 n c1 bs):=ho1'; have hs1:=hg1.size; clear hn2 hb1 ho1 ho1' hv1 hg1)
 try simp only [Exit.inBlock,Exit.then]
 refine bodyPost_ret (results_it rfl _ w.heap.size rfl _ _ _ _ _ _ (put5_heap HN2.out _ _ _ _ _)) rfl ⟨a1,c1,by first | rfl | simp [itv,It.cls,It.tag,It.cons],?_,?_⟩
 ·exact HO2.out.touch5 (put5_touch w1 w.heap.size _ _ _ _ _) (by omega)
 ·exact HB2.out.trans ((put5_touch w1 w.heap.size _ _ _ _ _).below (Nat.le_refl _) HB2.out.size)
theorem l9Bytes_any (a:Option Addr)(n c:Nat)(bs:List Int)(w:World)(h:Row w a n bs)(hc:a=none→c=0)(hn:n≤1000) :
  Calls Tryz.prog 71 #[.slice a n c] w fun e w'=>∃ a c,e=.returned (itv (bytI bs) a n c none 0 0)∧Own (w.heap.size+1) w' a n c bs∧Below w.heap.size w w':=by
 have hbx:=box5_below w
 have hnx:=box5_new w
 have hsx:=box5_size w
 obtain ⟨wb,hwb⟩:∃ wb,wb=box5 w:=⟨_,rfl⟩
 rw [← hwb] at hbx hnx hsx
 unfold box5 at hwb
 go_enter Tryz.func71,Tryz.ntmps71
 go_wp2_with fail
 rw [← hwb]
 clear hwb
 have hnx1:=hnx
 have B1:=hbx
 refine (l2Leaf_any 4 a n c bs _ (h.kept hbx) hc hn).mono ?_
 rintro e w2 ⟨a2,c2,rfl,ho2,hb2⟩
 have hs2:=hb2.size
 have hn1:=(hb2.block _ (by omega)).trans (hnx1)
 have B2:Below w.heap.size w w2:=B1.trans (hb2.mono (by omega))
 obtain ⟨_,x0,x1,x2,x3,x4,y0,y1,y2,y3,y4⟩:=Box5.of hn1
 have HO:Hid (Own (w.heap.size+1) w2 a2 n c2 bs):=ho2.mono (by omega)
 have HN:Hid (_):=hn1
 have HB:Hid (Below w.heap.size w w2):=B2
 clear ho2 hn1 B2 B1 hb2 hnx hbx hnx1
 unfold itv
 simp only [It.cls,It.tag,It.cons]
 go_wp2_with fail
 try simp only [Exit.inBlock,Exit.then]
 refine bodyPost_ret (results_it rfl _ w.heap.size rfl _ _ _ _ _ _ (put5_heap HN.out _ _ _ _ _)) rfl ⟨a2,c2,rfl,?_,?_⟩
 ·exact HO.out.touch5 (put5_touch w2 w.heap.size _ _ _ _ _) (by omega)
 ·exact HB.out.trans ((put5_touch w2 w.heap.size _ _ _ _ _).below (Nat.le_refl _) HB.out.size)
theorem l9Num_any (n:Int)(w:World) :
  Calls Tryz.prog 38 #[.int .i64 n] w fun e w'=>∃ a c,e=.returned (itv (numI n) a (wsz n) c none 0 0)∧Own (w.heap.size+1) w' a (wsz n) c (wbL n)∧Below w.heap.size w w':=by
 have hbx:=box5_below w
 have hnx:=box5_new w
 have hsx:=box5_size w
 obtain ⟨wb,hwb⟩:∃ wb,wb=box5 w:=⟨_,rfl⟩
 rw [← hwb] at hbx hnx hsx
 unfold box5 at hwb
 go_enter Tryz.func38,Tryz.ntmps38
 go_wp2_with fail
 rw [← hwb]
 clear hwb
 have hsz:=wsz_bd n
 refine (l3Number_any n _).mono ?_
 rintro e w1 ⟨a1,c1,rfl,ho1,hb1⟩
 have hs1:=hb1.size
 have hnx1:=(hb1.block _ (by omega)).trans hnx
 have B1:Below w.heap.size w w1:=hbx.trans (hb1.mono hbx.size)
 go_wp2_with fail
 refine (l2Leaf_any 2 a1 (wsz n) c1 (wbL n) _ ho1.toRow ho1.nil (by omega)).mono ?_
 rintro e w2 ⟨a2,c2,rfl,ho2,hb2⟩
 clear hb1 ho1
 have hs2:=hb2.size
 have hn1:=(hb2.block _ (by omega)).trans (hnx1)
 have B2:Below w.heap.size w w2:=B1.trans (hb2.mono (by omega))
 obtain ⟨_,x0,x1,x2,x3,x4,y0,y1,y2,y3,y4⟩:=Box5.of hn1
 have HO:Hid (Own (w.heap.size+1) w2 a2 (wsz n) c2 (wbL n)):=ho2.mono (by omega)
 have HN:Hid (_):=hn1
 have HB:Hid (Below w.heap.size w w2):=B2
 clear ho2 hn1 B2 B1 hb2 hnx hbx hnx1
 unfold itv
 simp only [It.cls,It.tag,It.cons]
 go_wp2_with fail
 try simp only [Exit.inBlock,Exit.then]
 refine bodyPost_ret (results_it rfl _ w.heap.size rfl _ _ _ _ _ _ (put5_heap HN.out _ _ _ _ _)) rfl ⟨a2,c2,rfl,?_,?_⟩
 ·exact HO.out.touch5 (put5_touch w2 w.heap.size _ _ _ _ _) (by omega)
 ·exact HB.out.trans ((put5_touch w2 w.heap.size _ _ _ _ _).below (Nat.le_refl _) HB.out.size)
end Go.Proofs.YtkdandggklpppaaGreatDoor
