import Derived.Test.YtmdfbnlgfhjnoaaGreatDoorFD18
import Derived.Test.YtmdfbnlgfhjnoaaGreatDoorFD13
import Derived.Test.YtmdfbnlgfhjnoaaGreatDoorFD20
set_option maxRecDepth 10000
set_option maxHeartbeats 8000000
set_option linter.unusedVariables false
namespace Go.Proofs.YtmdfbnlgfhjnoaaGreatDoor
open Go.RowKit
theorem wsz_at (n:Int)(k:Nat)(h0:1≤k)(h1:k<8):∃ H:Int,wrap64 (2 ^ (8 * k - 1))=H∧wrap64 (-2 ^ (8 * k - 1)) = -H∧(wsz n≤k↔-H≤n∧n<H):=by
 rcases (show k=1∨k=2∨k=3∨k=4∨k=5∨k=6∨k=7 by omega) with rfl | rfl | rfl | rfl | rfl | rfl | rfl
 ·exact ⟨128,by decide +kernel,by decide +kernel,wsz_le1 n⟩
 ·exact ⟨32768,by decide +kernel,by decide +kernel,wsz_le2 n⟩
 ·exact ⟨8388608,by decide +kernel,by decide +kernel,wsz_le3 n⟩
 ·exact ⟨2147483648,by decide +kernel,by decide +kernel,wsz_le4 n⟩
 ·exact ⟨549755813888,by decide +kernel,by decide +kernel,wsz_le5 n⟩
 ·exact ⟨140737488355328,by decide +kernel,by decide +kernel,wsz_le6 n⟩
 ·exact ⟨36028797018963968,by decide +kernel,by decide +kernel,wsz_le7 n⟩
theorem wb_at (n:Int)(q:Nat)(h:q≤7):n / 2 ^ (8 * q) % 256=(wb8 n).getD (7 - q) 0:=by
 match q,h with
 | 0,_=>simp [wb8]
 | 1,_=>simp [wb8]
 | 2,_=>simp [wb8]
 | 3,_=>simp [wb8]
 | 4,_=>simp [wb8]
 | 5,_=>simp [wb8]
 | 6,_=>simp [wb8]
 | 7,_=>simp [wb8]
def wbP (n:Int)(k q:Nat):List Int:=((wb8 n).drop (8 - k)).take (k - q)
theorem wbP_next (n:Int)(k q:Nat)(hk:k≤8)(hq:q<k):wbP n k (q+1)++[(wb8 n).getD (7 - q) 0]=wbP n k q:=by
 unfold wbP
 have hl:k - (q+1)<((wb8 n).drop (8 - k)).length:=by rw [List.length_drop,wb8_len]; omega
 rw [show k - q=k - (q+1)+1 by omega,take_snoc _ _ hl]
 congr 2
 rw [List.getD_eq_getElem?_getD,List.getD_eq_getElem?_getD,List.getElem?_drop,show 8 - k+(k - (q+1))=7 - q by omega]
theorem l3Number_any (n:Int)(w:World) :
  Calls Tryz.prog 137 #[.int .i64 n] w fun e w'=>∃ a c,e=.returned (.slice a (wsz n) c)∧Own w.heap.size w' a (wsz n) c (wbL n)∧Below w.heap.size w w':=by
 obtain ⟨i0,hi,hz0,hz1,hz2⟩:=info_parts Tryz.info5
 have HOE:Hid (_):=own_empty w
 have HBE:Hid (Below w.heap.size w (w.alloc (.cells #[] 5))):=(Below.refl _ _).alloc (Nat.le_refl _) _
 have hsz:=wsz_bd n
 go_enter Tryz.func137,Tryz.ntmps137
 go_wp2
 go_loopw [3] (fun s wr=>∃ k:Nat,k≤8∧1≤k∧s=.int .i64 k∧Hid (k≤wsz n)∧w=wr) (fun s _=>8 - (intOf s).toNat)
 case atStart=>exact ⟨1,by decide,by decide,rfl,hsz.1,rfl⟩
 case round =>
  obtain ⟨k,hk,hk1,rfl,HK,rfl⟩:=hrel
  by_cases hgo:k<8∧¬ wsz n≤k
  ·obtain ⟨H,hp,hn,hiff⟩:=wsz_at n k hk1 hgo.1
   have hk8i:(k:Int)<8:=by omega
   have HN:Hid (k+1≤wsz n):=by show _≤_; omega
   by_cases hH:H≤n
   ·clear hiff hgo
    go_wp2
    go_roundw
    case rel=>exact ⟨k+1,by omega,by omega,by go_num,HN,by first | rfl | trivial⟩
    case measure=>simp [intOf]; omega
   ·have hH2:n < -H:=by
     have h:=hgo.2
     rw [hiff] at h
     omega
    clear hiff hgo
    go_wp2
    go_roundw
    case rel=>exact ⟨k+1,by omega,by omega,by go_num,HN,by first | rfl | trivial⟩
    case measure=>simp [intOf]; omega
  ·have hex:k=wsz n:=by have:=HK.out; omega
   have HX:Hid (k=wsz n):=hex
   have tail:∀ (W:World),W=w.alloc (.cells #[] 5)→Own w.heap.size W (some ⟨w.heap.size,0,none⟩) 0 0 (wbP n k k)∧Below w.heap.size w W:=by
    intro W hW
    have e:wbP n k k = []:=by unfold wbP; simp
    rw [hW,e]
    exact ⟨HOE.out,HBE.out⟩
   have TAIL:Hid (_):=tail
   clear tail hex
   by_cases hk8:k<8
   ·obtain ⟨H,hp,hn,hiff⟩:=wsz_at n k hk1 hk8
    have hk8i:(k:Int)<8:=by omega
    have hH:¬ H≤n:=by have:=hiff.1 (by omega); omega
    have hH2:¬ n < -H:=by have:=hiff.1 (by omega); omega
    clear hiff hgo
    go_wp2
    go_loopw [4,5] (fun o i wr=>∃ (a:Option Addr) (q len cap:Nat),q≤k∧len=k - q∧i=.int .i64 ((q:Int) - 1)∧o=.slice a len cap∧Own w.heap.size wr a len cap (wbP n k q)∧Below w.heap.size w wr) (fun _ i _=>((intOf i)+1).toNat)
    case atStart=>exact ⟨_,k,0,0,Nat.le_refl _,by omega,rfl,rfl,(TAIL.out _ rfl).1,(TAIL.out _ rfl).2⟩
    case round =>
     obtain ⟨a,q,len,cap,hq,hle,rfl,rfl,hor,hbr⟩:=hrel
     have HLe:Hid (len=k - q):=hle
     clear hle
     rcases q with _ | q
     ·go_wp2
      go_ret
      have hlk:k=len:=by have:=HLe.out; omega
      subst hlk
      have e:wbP n k 0=wbL n:=by unfold wbP wbL; rw [← HX.out,List.take_of_length_le (by rw [List.length_drop,wb8_len]; omega)]
      rw [e] at hor
      exact ⟨_,_,by rw [← HX.out]; rfl,by rw [← HX.out]; exact hor,hbr⟩
     ·have e1:((q+1:Nat):Int) - 1=(q:Int):=by omega
      rw [e1]
      clear e1
      have hl9:len≤9:=by have:=HLe.out; omega
      have hq7:q≤7:=by omega
      have hws:w.heap.size≤wr.heap.size:=hbr.size
      have HE:Hid (_=_):=wb_at n q hq7
      go_wp2_with (at_builtin; go_loud (refine wpList_append_own _ rfl _ _ 32 rfl w.heap.size 5 i0 (.int .u8 0) 1 1 Tryz.underlying32 hi hz0 hz1 hz2 rfl (by decide) _ _ _ rfl (hor.row.alloc _) ⟨wr.heap.size,0,none⟩ 1 1 [_] rfl rfl (cell_one_new _ _ _) (by intro u hu; simp at hu; subst hu; rfl) (by unfold maxLen; omega) (by omega) (by simp; omega) ?_); intro v' w1 hown' hgrow' _)
      have hb1:Below w.heap.size w w1:=below_appended (hbr.alloc hws _) (by simp; omega) (hor.row.alloc _) hgrow'
      rw [HE.out] at hown'
      obtain ⟨a',cap',rfl,ho⟩:=own_appended (ys:=[(wb8 n).getD (7 - q) 0]) hown' hor.byte (by simpa using snoc_byte (xs:=[]) (by simp) _ (wb8_byte n (7 - q)))
      rw [wbP_next n k q (by omega) (by omega)] at ho
      go_roundw
      case rel=>exact ⟨a',q,len+1,cap',by omega,by have:=HLe.out; omega,rfl,rfl,ho,hb1⟩
      case measure=>simp [intOf]
   ·have hk8i:¬ (k:Int)<8:=by omega
    clear hgo
    go_wp2
    go_loopw [4,5] (fun o i wr=>∃ (a:Option Addr) (q len cap:Nat),q≤k∧len=k - q∧i=.int .i64 ((q:Int) - 1)∧o=.slice a len cap∧Own w.heap.size wr a len cap (wbP n k q)∧Below w.heap.size w wr) (fun _ i _=>((intOf i)+1).toNat)
    case atStart=>exact ⟨_,k,0,0,Nat.le_refl _,by omega,rfl,rfl,(TAIL.out _ rfl).1,(TAIL.out _ rfl).2⟩
    case round =>
     obtain ⟨a,q,len,cap,hq,hle,rfl,rfl,hor,hbr⟩:=hrel
     have HLe:Hid (len=k - q):=hle
     clear hle
     rcases q with _ | q
     ·go_wp2
      go_ret
      have hlk:k=len:=by have:=HLe.out; omega
      subst hlk
      have e:wbP n k 0=wbL n:=by unfold wbP wbL; rw [← HX.out,List.take_of_length_le (by rw [List.length_drop,wb8_len]; omega)]
      rw [e] at hor
      exact ⟨_,_,by rw [← HX.out]; rfl,by rw [← HX.out]; exact hor,hbr⟩
     ·have e1:((q+1:Nat):Int) - 1=(q:Int):=by omega
      rw [e1]
      clear e1
      have hl9:len≤9:=by have:=HLe.out; omega
      have hq7:q≤7:=by omega
      have hws:w.heap.size≤wr.heap.size:=hbr.size
      have HE:Hid (_=_):=wb_at n q hq7
      go_wp2_with (at_builtin; go_loud (refine wpList_append_own _ rfl _ _ 32 rfl w.heap.size 5 i0 (.int .u8 0) 1 1 Tryz.underlying32 hi hz0 hz1 hz2 rfl (by decide) _ _ _ rfl (hor.row.alloc _) ⟨wr.heap.size,0,none⟩ 1 1 [_] rfl rfl (cell_one_new _ _ _) (by intro u hu; simp at hu; subst hu; rfl) (by unfold maxLen; omega) (by omega) (by simp; omega) ?_); intro v' w1 hown' hgrow' _)
      have hb1:Below w.heap.size w w1:=below_appended (hbr.alloc hws _) (by simp; omega) (hor.row.alloc _) hgrow'
      rw [HE.out] at hown'
      obtain ⟨a',cap',rfl,ho⟩:=own_appended (ys:=[(wb8 n).getD (7 - q) 0]) hown' hor.byte (by simpa using snoc_byte (xs:=[]) (by simp) _ (wb8_byte n (7 - q)))
      rw [wbP_next n k q (by omega) (by omega)] at ho
      go_roundw
      case rel=>exact ⟨a',q,len+1,cap',by omega,by have:=HLe.out; omega,rfl,rfl,ho,hb1⟩
      case measure=>simp [intOf]
open Go.RowKit
theorem alloc_old (w:World)(o:Obj)(g:Nat)(hg:g<w.heap.size):(w.alloc o).heap[g]? = w.heap[g]?:=((Below.refl w.heap.size w).alloc (Nat.le_refl _) o).block g hg
structure BoxT (t g:Nat)(W:World)(x:It)(ab:Option Addr)(nb cb:Nat)(ak:Option Addr)(nk ck:Nat):Prop where
 heap:W.heap[g]? = some (.cells #[.int .i64 x.cls,.int .i64 x.tag,.bool x.cons,.slice ab nb cb,.slice ak nk ck] t (0,0))
theorem boxT_new (t:Nat)(w:World)(x:It)(ab:Option Addr)(nb cb:Nat)(ak:Option Addr)(nk ck:Nat):BoxT t w.heap.size (w.alloc (.cells #[.int .i64 x.cls,.int .i64 x.tag,.bool x.cons,.slice ab nb cb,.slice ak nk ck] t)) x ab nb cb ak nk ck:=⟨heap_alloc_new w _⟩
theorem BoxT.kept {t g:Nat}{W W':World}{x:It}{ab:Option Addr}{nb cb:Nat}{ak:Option Addr}{nk ck:Nat}(h:BoxT t g W x ab nb cb ak nk ck)(hb:Below W.heap.size W W'):BoxT t g W' x ab nb cb ak nk ck:=⟨(hb.block _ (Array.getElem?_eq_some_iff.1 h.heap).1).trans h.heap⟩
theorem BoxT.lt {t g:Nat}{W:World}{x:It}{ab:Option Addr}{nb cb:Nat}{ak:Option Addr}{nk ck:Nat}(h:BoxT t g W x ab nb cb ak nk ck):g<W.heap.size:=(Array.getElem?_eq_some_iff.1 h.heap).1
theorem BoxT.cells {t g:Nat}{W:World}{x:It}{ab:Option Addr}{nb cb:Nat}{ak:Option Addr}{nk ck:Nat}(h:BoxT t g W x ab nb cb ak nk ck) :
  W.cell? ⟨g,0,none⟩=some (.int .i64 x.cls)∧W.cell? ⟨g,1,none⟩=some (.int .i64 x.tag)∧W.cell? ⟨g,2,none⟩=some (.bool x.cons)∧W.cell? ⟨g,3,none⟩=some (.slice ab nb cb)∧W.cell? ⟨g,4,none⟩=some (.slice ak nk ck) :=
 ⟨(cell_of_row _ g 0 _ t (0,0) h.heap).trans rfl,(cell_of_row _ g 1 _ t (0,0) h.heap).trans rfl,(cell_of_row _ g 2 _ t (0,0) h.heap).trans rfl,(cell_of_row _ g 3 _ t (0,0) h.heap).trans rfl,(cell_of_row _ g 4 _ t (0,0) h.heap).trans rfl⟩
theorem encK_ge (f:It→Option (List Int))(xs:List It):∀ acc l,encK f acc xs=some l→acc.length≤l.length:=by
 induction xs with
 | nil=>intro acc l e; simp [encK] at e; subst e; exact Nat.le_refl _
 | cons x xs ih =>
  intro acc l e
  simp only [encK] at e
  split at e
  ·cases e
  ·split at e
   ·have:=ih _ _ e
    rw [List.length_append] at this
    omega
   ·cases e
theorem encK_step (f:It→Option (List Int))(xs:List It)(k:Nat)(h:k<xs.length)(acc l:List Int)(e:encK f acc (xs.drop k)=some l):∃ p,f (xs.getD k default)=some p∧acc.length+p.length≤20000∧encK f (acc++p) (xs.drop (k+1))=some l:=by
 rw [drop_get xs k h] at e
 simp only [encK] at e
 split at e
 ·cases e
 ·rename_i p hp
  split at e
  ·exact ⟨p,hp,by assumption,e⟩
  ·cases e
theorem enc_parts (r:Nat)(x:It)(l:List Int)(h:enc (r+1) x=some l):x.shape=true∧∃ inner,inX r x=some inner∧l=headL x inner.length++inner∧l.length≤20000:=by
 have hl:=enc_len _ _ _ h
 cases hs:x.shape with
 | false=>rw [enc_shape r x hs] at h; cases h
 | true =>
  refine ⟨rfl,?_⟩
  cases hi:inX r x with
  | none=>rw [enc_inX_none r x hs hi] at h; cases h
  | some inner =>
   refine ⟨inner,rfl,?_,hl⟩
   by_cases hlong:(headL x inner.length++inner).length≤20000
   ·rw [enc_inX_some r x inner hs hi hlong] at h
    exact (Option.some.inj h).symm
   ·rw [enc_inX_long r x inner hs hi hlong] at h; cases h
theorem own_zero (B:Nat)(w:World)(g:Nat)(hg:w.heap.size=g)(h:B≤w.heap.size):Own B (w.alloc (.cells #[] 5)) (some ⟨g,0,none⟩) 0 0 []:=by
 subst hg
 exact ⟨World.ownsRow_lit w #[] 0 h (by decide) rfl,by simp⟩
def SpecBytes (d:Nat):Prop:=∀ (r:Nat) (x:It) (l:List Int) (ab:Option Addr) (nb cb:Nat) (ak:Option Addr) (nk ck:Nat) (w:World),enc r x=some l→Row w ab nb x.body→(ab=none→cb=0)→Kids d w ak nk x.kids →
  Calls Tryz.prog 36 #[itv x ab nb cb ak nk ck] w fun e w'=>∃ a cap,e=.returned (.slice a l.length cap)∧Own w.heap.size w' a l.length cap l∧Below w.heap.size w w'
theorem specBytes_next (d:Nat)(ih:SpecBytes d):SpecBytes (d+1):=by
 intro r x l ab nb cb ak nk ck w henc hrow hnil hk
 obtain ⟨i0,hi,hz0,hz1,hz2⟩:=info_parts Tryz.info5
 cases r with
 | zero=>simp [enc] at henc
 | succ r =>
  obtain ⟨hsh,inner,hin,hl,hl2⟩:=enc_parts r x l henc
  have hge:=encK_ge _ _ _ _ hin
  have hil:inner.length≤20000:=by rw [hl,List.length_append] at hl2; omega
  have hnb:nb≤20000:=by rw [hrow.len] at hge; omega
  have HR:Hid (Row w ab nb x.body):=hrow
  have HK:Hid (Kids (d+1) w ak nk x.kids):=hk
  have HL:Hid (x.kids.length=nk):=hk.1
  have hnk:=hk.2.1
  have HI:Hid (encK (enc r) x.body (x.kids.drop 0)=some inner):=by show _=_; rw [List.drop_zero]; exact hin
  have HLL:Hid (l=headL x inner.length++inner):=hl
  have hsb:=shape_bounds hsh
  have hbl:Below w.heap.size w (w.alloc (.cells #[.int .i64 x.cls,.int .i64 x.tag,.bool x.cons,.slice ab nb cb,.slice ak nk ck] 75)):=(Below.refl _ _).alloc (Nat.le_refl _) _
  have hB1:Below w.heap.size w ((w.alloc (.cells #[.int .i64 x.cls,.int .i64 x.tag,.bool x.cons,.slice ab nb cb,.slice ak nk ck] 75)).alloc (.cells #[] 5)):=hbl.alloc hbl.size _
  have HO:Hid (Own (w.heap.size+1) ((w.alloc (.cells #[.int .i64 x.cls,.int .i64 x.tag,.bool x.cons,.slice ab nb cb,.slice ak nk ck] 75)).alloc (.cells #[] 5)) (some ⟨w.heap.size+1,0,none⟩) 0 0 []):=own_zero _ _ _ (by simp) (by simp)
  have BX0:Hid (_):=boxT_new 75 w x ab nb cb ak nk ck
  clear hrow hk hin hl henc hge
  unfold itv
  go_enter Tryz.func36,Tryz.ntmps36
  go_wp2_with (at_builtin; refine wpList_append_row _ rfl (.tmp 5) (.tmp 7) 32 rfl (w.heap.size+1) i0 Tryz.underlying32 hi hz0 hz1 hz2 _ _ _ rfl HO.out.row ab nb cb x.body rfl (HR.out.kept hB1) hnil (by omega) (by simp) ?_; intro v1 w1 hv1 hg1; obtain ⟨a1,c1,rfl,ho1⟩:=own_appended (xs:=[]) (ys:=x.body) hv1 HO.out.byte HR.out.byte; have hb1:Below w.heap.size w w1:=below_appended hB1 hB1.size (HO.out.mono (by omega)).row hg1; have hx1:BoxT 75 w.heap.size w1 x ab nb cb ak nk ck:=⟨(hg1.block w.heap.size (by simp; omega) (by show some w.heap.size≠some (w.heap.size+1); simp)).trans ((alloc_old _ _ _ (by simp)).trans BX0.out.heap)⟩)
  have ho1':Own (w.heap.size+1) w1 a1 nb c1 x.body:=by simpa using ho1
  go_loopw [3,4] (fun o i wr=>∃ (k m c:Nat) (ao:Option Addr) (acc:List Int),k≤nk∧i=.int .i64 k∧o=.slice ao m c∧Own (w.heap.size+1) wr ao m c acc∧m≤20000∧Hid (encK (enc r) acc (x.kids.drop k)=some inner)∧BoxT 75 w.heap.size wr x ab nb cb ak nk ck∧Below w.heap.size w wr) (fun _ i _=>nk - (intOf i).toNat)
  case atStart=>exact ⟨0,nb,c1,a1,x.body,Nat.zero_le _,rfl,rfl,ho1',hnb,HI,hx1,hb1⟩
  case round =>
   obtain ⟨k,m,c,ao,acc,hk,rfl,rfl,hor,hm,hE,hbx,hbr⟩:=hrel
   obtain ⟨x0,x1,x2,x3,x4⟩:=hbx.cells
   have BX:Hid (BoxT 75 w.heap.size wr x ab nb cb ak nk ck):=hbx
   clear hbx
   have hs:=hbr.size
   by_cases hkn:k<nk
   ·obtain ⟨b,off,rfl,hlb,ab1,nb1,cb1,ak1,nk1,ck1,c0,c1',c2,c3,c4,hr1,hn1,hm1,hk1⟩:=HK.out.2.2 k hkn
    obtain ⟨p,hp,hpl,hpn⟩:=encK_step _ _ _ (by rw [HL.out]; exact hkn) _ _ hE.out
    obtain ⟨y,hy⟩:∃ y,y=x.kids.getD k default:=⟨_,rfl⟩
    rw [← hy] at c0 c1' c2 hr1 hk1 hp
    have cc:∀ j,wr.cell? ⟨b,j,none⟩=w.cell? ⟨b,j,none⟩:=fun j=>hbr.cell (p:=⟨b,j,none⟩) hlb
    rw [← cc] at c0 c1' c2 c3 c4
    have hkni:(k:Int)<(nk:Int):=by omega
    have hla:=hor.length
    rw [hla] at hpl
    have R1:Hid (_):=hr1.kept hbr
    have K1:Hid (_):=hk1.kept hbr
    have HP:Hid (enc r y=some p):=hp
    have HPN:Hid (encK (enc r) (acc++p) (x.kids.drop (k+1))=some inner):=hpn
    clear cc hy hr1 hk1 hp hpn hla
    go_wp2_with fail
    refine (ih r y p ab1 nb1 cb1 ak1 nk1 ck1 _ HP.out R1.out hn1 K1.out).mono ?_
    rintro e w2 ⟨a2,c2',rfl,ho2,hb2⟩
    have hb2':Below w.heap.size w w2:=hbr.trans (hb2.mono hs)
    have hor2:=hor.kept hb2
    have ho2':=ho2.mono hs
    obtain ⟨q,hq⟩:∃ q,q=p.length:=⟨_,rfl⟩
    rw [← hq] at ho2 ho2' hpl ⊢
    have BX2:Hid (_):=BX.out.kept hb2
    clear hq
    go_wp2_with (at_builtin; refine wpList_append_row _ rfl (.tmp 16) (.tmp 22) 32 rfl (w.heap.size+1) i0 Tryz.underlying32 hi hz0 hz1 hz2 _ _ _ rfl hor2.row a2 q c2' p rfl ho2.toRow ho2.nil (by omega) (by have:=BX.out.lt; have:=hb2.size; omega) ?_; intro v3 w3 hv3 hg3)
    obtain ⟨a3,c3',rfl,ho3⟩:=own_appended (xs:=acc) (ys:=p) hv3 hor2.byte ho2.byte
    have hb3:Below w.heap.size w w3:=below_appended hb2' hb2'.size (hor2.mono (by omega)).row hg3
    have hlt2:=BX2.out.lt
    have hx3:BoxT 75 w.heap.size w3 x ab nb cb (some ⟨b,off,none⟩) nk ck:=⟨(hg3.block w.heap.size hlt2 (fun e=>by have:=(hor2.row.lt _ e.symm).1; omega)).trans BX2.out.heap⟩
    have FIN:Hid (_∧_):=⟨ho3,hx3⟩
    clear ho3 hx3 hv3 hg3
    go_wp2
    go_roundw
    case rel=>exact ⟨k+1,m+q,c3',a3,acc++p,by omega,by go_num,rfl,FIN.out.1,hpl,HPN,FIN.out.2,hb3⟩
    case measure=>simp [intOf]; omega
   ·obtain rfl:nk=k:=by omega
    have hacc:Hid (acc=inner):=by
     show _=_
     have:=hE.out
     rw [encK_end _ _ _ (by rw [HL.out]; exact Nat.le_refl _)] at this
     exact Option.some.inj this
    go_wp2_with fail
    refine (l2Head_any x ab nb cb ak nk ck m _ hsb.1 hsb.2 (by omega)).mono ?_
    rintro e w3 ⟨a3,c3,rfl,ho3,hb3⟩
    have hb3':Below w.heap.size w w3:=hbr.trans (hb3.mono hs)
    have hor3:=hor.kept hb3
    have hla:=hor.length
    have hh:=headL_len x m hsb.2
    have HLL2:Hid (l=headL x m++acc):=by show _=_; rw [HLL.out,← hacc.out,hla]
    obtain ⟨hd,hhd⟩:∃ hd,hd=headL x m:=⟨_,rfl⟩
    rw [← hhd] at ho3 hh HLL2 ⊢
    obtain ⟨nh,hnh⟩:∃ nh,nh=hd.length:=⟨_,rfl⟩
    rw [← hnh] at ho3 hh ⊢
    have HN:Hid (l.length=nh+m):=by show _=_; rw [HLL2.out,List.length_append,hla,← hnh]
    have ho3':=ho3.mono hs
    clear hhd hnh hla
    go_wp2_with (at_builtin; refine wpList_append_row _ rfl (.tmp 27) (.tmp 28) 32 rfl w.heap.size i0 Tryz.underlying32 hi hz0 hz1 hz2 _ _ _ rfl ho3'.row ao m c acc rfl hor3.toRow hor3.nil (by omega) hb3'.size ?_; intro v5 w5 hv5 hg5; obtain ⟨a5,c5,rfl,ho5⟩:=own_appended (xs:=hd) (ys:=acc) hv5 ho3'.byte hor3.byte; have hb5:Below w.heap.size w w5:=below_appended hb3' hb3'.size ho3'.row hg5)
    go_ret
    exact ⟨a5,c5,by rw [HN.out]; rfl,by rw [HN.out,HLL2.out]; exact ho5,hb5⟩
theorem specBytes_all (d:Nat):SpecBytes d:=by
 induction d with
 | zero=>intro r x l ab nb cb ak nk ck w _ _ _ h; exact h.elim
 | succ d ih=>exact specBytes_next d ih
open Go.RowKit
theorem HN.pow {h:Int}{N:Nat}(hn:HN h N):N=2 ^ h.toNat∧h.toNat≤5:=by
 unfold HN at hn
 rcases hn with ⟨rfl,rfl⟩ | ⟨rfl,rfl⟩ | ⟨rfl,rfl⟩ | ⟨rfl,rfl⟩ | ⟨rfl,rfl⟩ | ⟨rfl,rfl⟩ <;> decide
open Go.RowKit
theorem below_dn {B:Nat}{w w':World}(h:Below B w w')(n:Nat):Below B w (w'.drewN n):=by
 induction n with
 | zero=>simpa [World.drewN] using h
 | succ n ih=>exact ih.drew
open Go.RowKit
theorem wraps_u64' (n:Int)(h₀:0≤n)(h₁:n<2 ^ 64):IntKind.u64.wrap n=n:=by rw [IntKind.wrap_u64]; omega
theorem and15 (x:Int)(hx:0≤x)(hx':x≤18446744073709551615):bits .and .u64 x 15=x % 16:=bits_mask .u64 64 (by decide) wraps_u64' 4 (by decide) x hx (by omega)
theorem and15i (x:Int)(hx:0≤x)(hx':x≤9223372036854775807):bits .and .i64 x 15=x % 16:=bits_mask .i64 63 (by decide) wraps_i64' 4 (by decide) x hx (by omega)
def digI (h:Int)(i:Nat):Int:=h / (16:Int) ^ (15 - i) % 16
theorem digI_bd (h:Int)(i:Nat):0≤digI h i∧digI h i≤15:=by unfold digI; omega
def sumF (h:Int):Nat→Int
 | 0=>0
 | k+1=>sumF h k+(15 - digI h (15 - k))
theorem sumF_bd (h:Int)(k:Nat):0≤sumF h k∧sumF h k≤15 * (k:Int):=by
 induction k with
 | zero=>simp [sumF]
 | succ k ih=>have:=digI_bd h (15 - k); rw [sumF]; omega
def sumU (h:Int):Nat→Int
 | 0=>0
 | k+1=>sumU h k+(15 - digI h k)
theorem sumU_bd (h:Int)(k:Nat):0≤sumU h k∧sumU h k≤15 * (k:Int):=by
 induction k with
 | zero=>simp [sumU]
 | succ k ih=>have:=digI_bd h k; rw [sumU]; omega
theorem sum_same (h:Int):sumU h 16=sumF h 16:=by
 simp only [sumU,sumF,Nat.reduceSub]
 omega
def dgL (h:Int)(q:Nat):List Int:=(List.range 18).map fun i=>if q≤i∧i<16 then digI h i else 0
theorem dgL_len (h:Int)(q:Nat):(dgL h q).length=18:=by simp [dgL]
theorem dgL_set (h:Int)(q:Nat)(hq:q<16):(dgL h (q+1)).set q (digI h q)=dgL h q:=by
 apply List.ext_getElem?
 intro i
 rw [List.getElem?_set]
 simp only [dgL,List.length_map,List.length_range,List.getElem?_map]
 by_cases hi:i<18
 ·rw [List.getElem?_range hi]
  by_cases e:q=i
  ·subst e
   simp [hq]; omega
  ·simp only [e,if_false,Option.map_some]
   congr 1
   by_cases c:q≤i∧i<16
   ·rw [if_pos c,if_pos (by omega)]
   ·rw [if_neg c,if_neg (by omega)]
 ·rw [List.getElem?_eq_none (by simp; omega)]
  split
  ·omega
  ·rfl
def diL (h:Int):List Int:=(List.range 16).map (digI h)++[sumF h 16 / 16,sumF h 16 % 16]
theorem diL_len (h:Int):(diL h).length=18:=by simp [diL]
theorem diL_of (h:Int):((dgL h 0).set 16 (sumF h 16 / 16)).set 17 (sumF h 16 % 16)=diL h:=rfl
theorem diL_bd (h:Int):∀ k,0≤(diL h).getD k 0∧(diL h).getD k 0≤15:=by
 intro k
 have hs:=sumF_bd h 16
 unfold diL
 rw [List.getD_eq_getElem?_getD,List.getElem?_append]
 split
 ·rename_i hk
  simp only [List.length_map,List.length_range] at hk
  rw [List.getElem?_map,List.getElem?_range hk]
  exact digI_bd h k
 ·simp only [List.length_map,List.length_range]
  rcases hk:k - 16 with _ | _ | m
  ·simp; omega
  ·simp; omega
  ·simp
def vA (l:List Int):Array Value:=(l.map (Value.int .i64)).toArray
theorem vA_size (l:List Int):(vA l).size=l.length:=by simp [vA]
theorem vA_get (l:List Int)(k:Nat):(vA l)[k]? = (l[k]?).map (Value.int .i64):=by simp [vA]
theorem vA_set (l:List Int)(k:Nat)(x:Int):(vA l).setIfInBounds k (.int .i64 x)=vA (l.set k x):=by
 apply Array.ext'
 simp [vA,List.map_set]
theorem vA_one (l:List Int):((vA l).all fun x=>x.oneCell')=true:=by
 simp [vA]
 intro i hi
 rfl
theorem Tryz.info18:(Tryz.prog.info? 280).map (·.size)=some 18:=by kernel_rfl
theorem signedDigits_any (a:Option Addr)(n c:Nat)(bs:List Int)(w:World)(hr:Row w a n bs)(hn:n≤1000000000000) :
  Calls Tryz.prog 285 #[.slice a n c] w fun e w'=>e=.returned (.agg (vA (diL (hashL bs))))∧Below w.heap.size w w':=by
 have hU:=hashL_bd bs
 obtain ⟨h,hh⟩:∃ h,h=hashL bs:=⟨_,rfl⟩
 have HH:Hid (hashL bs=h):=hh.symm
 rw [← hh] at hU ⊢
 clear hh
 obtain ⟨wb,hwb⟩:∃ wb,wb=(w.alloc (.cells (vA (dgL h 16)) 280)).alloc (.cells (vA (dgL h 16)) 280):=⟨_,rfl⟩
 have hbb:Below w.heap.size w wb:=by rw [hwb]; exact ((Below.refl _ _).alloc (Nat.le_refl _) _).alloc (by simp) _
 have hg1:wb.heap[w.heap.size+1]? = some (.cells (vA (dgL h 16)) 280):=by rw [hwb]; exact heap_alloc2_new w _ _
 have hg0:wb.heap[w.heap.size]? = some (.cells (vA (dgL h 16)) 280):=by rw [hwb]; exact heap_alloc2_old w _ _
 have hz:vA (dgL h 16)=#[.int .i64 0,.int .i64 0,.int .i64 0,.int .i64 0,.int .i64 0,.int .i64 0,.int .i64 0,.int .i64 0,.int .i64 0,.int .i64 0,.int .i64 0,.int .i64 0,.int .i64 0,.int .i64 0,.int .i64 0,.int .i64 0,.int .i64 0,.int .i64 0]:=rfl
 have HWB:Hid (_=_):=hwb
 rw [hz] at HWB
 clear hwb hz
 go_enter Tryz.func285,Tryz.ntmps285
 go_upto_region 2 with fail
 rw [← HWB.out]
 clear HWB
 go_wp2_with fail
 refine (implHash_any a n c bs _ (hr.kept hbb) hn).mono ?_
 rintro e w1 ⟨rfl,hb1⟩
 rw [HH.out]
 have hl0:w.heap.size<wb.heap.size:=(Array.getElem?_eq_some_iff.1 hg0).1
 have hl1:w.heap.size+1<wb.heap.size:=(Array.getElem?_eq_some_iff.1 hg1).1
 have hg1':=(hb1.block _ hl1).trans hg1
 have hg0':=(hb1.block _ hl0).trans hg0
 have HB1:Hid (Below w.heap.size w w1):=keepT hbb hb1
 have HG1:Hid (_=_):=hg1'
 have HG0:Hid (_=_):=hg0'
 clear hg1' hg0' hg1 hg0 hb1 hbb hr HH
 go_wp2
 go_loopw [4,5,6] (fun r s i wr=>∃ (q:Nat) (x y:Int),q≤16∧i=.int .i64 ((q:Int) - 1)∧r=.int .u64 x∧s=.int .i64 y∧Hid (x=h / (16:Int) ^ (16 - q))∧Hid (y=sumF h (16 - q))∧Hid (wr.heap[w.heap.size+1]? = some (.cells (vA (dgL h q)) 280))∧Hid (wr.heap[w.heap.size]? = some (.cells (vA (dgL h 16)) 280))∧Hid (Below w.heap.size w wr)) (fun _ _ i _=>((intOf i)+1).toNat)
 case atStart=>exact ⟨16,h,0,Nat.le_refl _,rfl,rfl,rfl,by show _=_; simp,rfl,HG1,HG0,HB1⟩
 case round =>
  obtain ⟨q,x,y,hq,rfl,rfl,rfl,HX,HY,HA,HZ,HB⟩:=hrel
  clear HG1 HG0 HB1
  rcases q with _ | q
  ·have hy:=sumF_bd h 16
   rw [← show y=sumF h 16 from HY.out] at hy
   obtain ⟨hy0,hy1⟩:=hy
   have ha:=and15i y hy0 (by omega)
   have k16:wr.cell? ⟨w.heap.size+1,16,none⟩=some (.int .i64 0):=qk HA.out rfl
   have f16:wr.frozen? ⟨w.heap.size+1,16,none⟩=false:=frozen_of_row wr _ 16 _ 280 HA.out
   have k17:wr.cell? ⟨w.heap.size+1,17,none⟩=some (.int .i64 0):=qk HA.out rfl
   have f17:wr.frozen? ⟨w.heap.size+1,17,none⟩=false:=frozen_of_row wr _ 17 _ 280 HA.out
   go_upto_region 11 with fail
   rename_i K0 hK0
   have HY2:Hid (y=sumF h 16):=HY
   have h1:=heap_setCell_same (wr.setCell ⟨w.heap.size+1,16,none⟩ (.int .i64 (y / 16))) (w.heap.size+1) 17 _ 280 (.int .i64 (y % 16)) (heap_setCell_same wr (w.heap.size+1) 16 _ 280 (.int .i64 (y / 16)) HA.out)
   rw [vA_set,vA_set,HY2.out,diL_of,← HY2.out] at h1
   have h0:((wr.setCell ⟨w.heap.size+1,16,none⟩ (.int .i64 (y / 16))).setCell ⟨w.heap.size+1,17,none⟩ (.int .i64 (y % 16))).heap[w.heap.size]? = some (.cells (vA (dgL h 16)) 280):=(Below.heap_setCell _ _ _ _ (by simp)).trans ((Below.heap_setCell _ _ _ _ (by simp)).trans HZ.out)
   have hB:Below w.heap.size w ((wr.setCell ⟨w.heap.size+1,16,none⟩ (.int .i64 (y / 16))).setCell ⟨w.heap.size+1,17,none⟩ (.int .i64 (y % 16))):=(HB.out.setCell (by simp) _).setCell (by simp) _
   obtain ⟨W,hW⟩:∃ W,W=((wr.setCell ⟨w.heap.size+1,16,none⟩ (.int .i64 (y / 16))).setCell ⟨w.heap.size+1,17,none⟩ (.int .i64 (y % 16))):=⟨_,rfl⟩
   rw [← hW] at h1 h0 hB ⊢
   clear hW HA HZ HB HY2 k16 f16 k17 f17
   apply wp_region_lit
   refine wpList_load_row rfl 280 _ rfl (w.heap.size+1) rfl 280 (vA (diL h)) (0,0) _ h1 Tryz.underlying280 rfl (by rw [vA_size,diL_len]; exact Tryz.info18) ?_
   refine wpList_store_row rfl 280 _ _ rfl w.heap.size (vA (diL h)) rfl rfl 280 (vA (dgL h 16)) h0 (by rw [vA_size,diL_len]; exact Tryz.info18) (by rw [vA_size,vA_size,diL_len,dgL_len]) (vA_one _) ?_
   apply wpList_nil
   refine hK0 _ _ ?_
   have hf:=setRow_heap W w.heap.size _ (vA (diL h)) 280 _ h0
   go_wp2
   try simp only [Exit.inBlock,Exit.then]
   exact bodyPost_ret (results_cell_row rfl _ _ w.heap.size 280 (vA (diL h)) (0,0) _ rfl hf Tryz.underlying280 rfl (by rw [vA_size,diL_len]; exact Tryz.info18)) rfl ⟨rfl,below_setRow hB (Nat.le_refl _) _⟩
  ·have e1:((q+1:Nat):Int) - 1=(q:Int):=by omega
   rw [e1]
   clear e1
   have hq16:q<16:=by omega
   have hx0:0≤x:=by rw [HX.out]; exact Int.ediv_nonneg hU.1 (Int.le_of_lt (Int.pow_pos (by decide)))
   have hx1:x≤18446744073709551615:=by
    have:x≤h:=by rw [HX.out]; exact Int.ediv_le_self _ hU.1
    have:=hU.2
    omega
   have ha:=and15 x hx0 hx1
   have HD:Hid (x % 16=digI h q):=by show _=_; rw [HX.out]; unfold digI; rw [show 16 - (q+1)=15 - q by omega]
   have hdb:=digI_bd h q
   have kq:wr.cell? ⟨w.heap.size+1,q,none⟩=some (.int .i64 ((dgL h (q+1)).getD q 0)):=by
    rw [cell_of_row _ _ q _ 280 (0,0) HA.out,vA_get,List.getElem?_eq_getElem (by rw [dgL_len]; omega)]
    simp [dgL_len,show q<18 by omega]
   have fq:wr.frozen? ⟨w.heap.size+1,q,none⟩=false:=frozen_of_row wr _ q _ 280 HA.out
   go_wp2_with fail
   go_roundw
   case rel =>
    have hs:=heap_setCell_same wr (w.heap.size+1) q _ 280 (.int .i64 (x % 16)) HA.out
    rw [vA_set,HD.out,dgL_set h q hq16,← HD.out] at hs
    have hyb:=sumF_bd h (16 - (q+1))
    have hw2:wrap64 (y+(15 - x % 16))=y+(15 - x % 16):=by rw [← show y=sumF h (16 - (q+1)) from HY.out] at hyb; unfold wrap64; omega
    refine ⟨q,x / 16,wrap64 (y+(15 - x % 16)),by omega,rfl,rfl,rfl,?_,?_,hs,(Below.heap_setCell _ _ _ _ (by simp)).trans HZ.out,HB.out.setCell (by simp) _⟩
    ·show _=_
     rw [HX.out,Int.ediv_ediv_of_nonneg (Int.le_of_lt (Int.pow_pos (by decide))),show 16 - q=16 - (q+1)+1 by omega,Int.pow_succ]
    ·show _=_
     rw [hw2,HY.out,HD.out,show 16 - q=16 - (q+1)+1 by omega,sumF,show 15 - (16 - (q+1))=q by omega]
   case measure=>simp [intOf]
open Go.RowKit
theorem wraps_i64 (n:Int)(h₀:0≤n)(h₁:n<2 ^ 63):IntKind.i64.wrap n=n:=by rw [IntKind.wrap_i64]; omega
theorem or7 (m x:Int)(hm:0≤m)(hm':m<72057594037927936)(hx:0≤x)(hx':x<128):bits .or .i64 (m * 128) x=m * 128+x :=
 bits_join .i64 63 (by decide) wraps_i64 7 (m * 128) x (by omega) (by omega) (by omega) hx hx' (by omega)
theorem and7 (x:Int)(hx:0≤x)(hx':x≤255):bits .and .u8 x 127=x % 128:=bits_mask .u8 8 (by decide) wraps_u8 7 (by decide) x hx (by omega)
def getL:List Int→Int→Int→Int × Int × Int
 | [],_,_=>(0,0,1)
 | x::r,m,p=>if 72057594037927936≤m then (0,0,2) else if x<128 then (m * 128+x % 128,p+1,0) else getL r (m * 128+x % 128) (p+1)
def getN (bs:List Int)(p:Int):Int × Int × Int :=
 if p<0∨(bs.length:Int)<p then (0,0,3) else if (bs.getD p.toNat 0)=128 then (0,0,2) else getL (bs.drop p.toNat) 0 p
theorem drop_cons {bs:List Int}{k:Nat}(h:k<bs.length):bs.drop k=bs.getD k 0::bs.drop (k+1):=by
 rw [List.drop_eq_getElem_cons h]; simp [h]
theorem getL_big {bs:List Int}{k:Nat}(h:k<bs.length){m p:Int}(hm:72057594037927936≤m):getL (bs.drop k) m p=(0,0,2):=by
 rw [drop_cons h,getL,if_pos hm]
theorem getL_last {bs:List Int}{k:Nat}(h:k<bs.length){m p:Int}(hm:¬ 72057594037927936≤m)(hx:bs.getD k 0<128):getL (bs.drop k) m p=(m * 128+bs.getD k 0 % 128,p+1,0):=by
 rw [drop_cons h,getL,if_neg hm,if_pos hx]
theorem getL_next {bs:List Int}{k:Nat}(h:k<bs.length){m p:Int}(hm:¬ 72057594037927936≤m)(hx:¬ bs.getD k 0<128):getL (bs.drop k) m p=getL (bs.drop (k+1)) (m * 128+bs.getD k 0 % 128) (p+1):=by
 rw [drop_cons h,getL,if_neg hm,if_neg hx]
theorem getL_end {bs:List Int}{k:Nat}(h:bs.length≤k){m p:Int}:getL (bs.drop k) m p=(0,0,1):=by
 rw [List.drop_eq_nil_of_le h,getL]
def trip (t:Int × Int × Int):Value:=.tuple #[.int .i64 t.1,.int .i64 t.2.1,.int .i64 t.2.2]
theorem specGetNum_any (a:Option Addr)(n cap:Nat)(bs:List Int)(p:Int)(w:World)(h:Row w a n bs)(hn:n≤1000000000000) :
  Calls Tryz.prog 121 #[.slice a n cap,.int .i64 p] w fun e w'=>e=.returned (trip (getN bs p))∧w'=w:=by
 have H0:Hid (Row w a n bs):=h
 have hby:=h.byte
 have HL:Hid (bs.length=n):=h.len
 clear h
 by_cases hp:p<0
 ·have hf:Hid (getN bs p=(0,0,3)):=by show _=_; rw [getN,if_pos (.inl hp)]
  go_enter Tryz.func121,Tryz.ntmps121
  go_wp2
  go_ret3
  exact ⟨by rw [hf.out]; rfl,rfl⟩
 ·by_cases hpn:(n:Int)<p
  ·have hf:Hid (getN bs p=(0,0,3)):=by show _=_; rw [getN,if_pos (.inr (by rw [HL.out]; exact hpn))]
   go_enter Tryz.func121,Tryz.ntmps121
   go_wp2
   go_ret3
   exact ⟨by rw [hf.out]; rfl,rfl⟩
  ·obtain ⟨s,rfl⟩:=Int.eq_ofNat_of_zero_le (show 0≤p by omega)
   have hG:getN bs (s:Int)=if (bs.getD s 0)=128 then (0,0,2) else getL (bs.drop s) 0 s:=by
    rw [getN,if_neg (by rw [HL.out]; omega),Int.toNat_natCast]
   have HG:Hid (getN bs (s:Int)=if (bs.getD s 0)=128 then (0,0,2) else getL (bs.drop s) 0 s):=hG
   clear hG
   go_enter Tryz.func121,Tryz.ntmps121
   go_wp2
   go_loop [7,8] (fun m i=>∃ (k:Nat) (mm:Int),s≤k∧k≤n∧i=.int .i64 k∧m=.int .i64 mm∧0≤mm∧mm≤9223372036854775807∧(k=s→mm=0)∧(s<k→bs.getD s 0≠128)∧getL (bs.drop s) 0 s=getL (bs.drop k) mm k) (fun _ i=>n+1 - (intOf i).toNat)
   case atStart=>exact ⟨s,0,by omega,by omega,rfl,rfl,by omega,by omega,fun _=>rfl,fun h=>absurd h (Nat.lt_irrefl _),rfl⟩
   case round =>
    obtain ⟨k,mm,hsk,hkn,rfl,rfl,hm0,hm1,hz,hf,hg⟩:=hrel
    have HG2:Hid (getL (bs.drop s) 0 s=getL (bs.drop k) mm k):=hg
    have HZ:Hid (k=s→mm=0):=hz
    have HF:Hid (s<k→bs.getD s 0≠128):=hf
    clear hg hz hf
    by_cases hlt:k<n
    ·have hlb:k<bs.length:=by have:=HL.out; omega
     obtain ⟨b,off,rfl,hb,hc⟩:=H0.out.get k hlt
     obtain ⟨x,hx⟩:∃ x,x=bs.getD k 0:=⟨_,rfl⟩
     have hxb:=hby k
     rw [← hx] at hc hxb
     obtain ⟨hx0,hx1⟩:=hxb
     have HX:Hid (x=bs.getD k 0):=hx
     clear hx
     have hand:bits .and .u8 x 127=x % 128:=and7 x hx0 hx1
     by_cases hc1:k=s∧x=128
     ·obtain ⟨hks,h128⟩:=hc1
      have hfin:Hid (getN bs (s:Int)=(0,0,2)):=by show _=_; rw [HG.out,← hks,if_pos (by rw [← HX.out]; exact h128)]
      have e1:((k:Int) == (s:Int))=true:=by simp [hks]
      have e2:(x == 128)=true:=by simp [h128]
      clear hks h128
      go_wp2
      go_ret3
      exact ⟨by rw [hfin.out]; rfl,rfl⟩
     ·have hgn:Hid (getN bs (s:Int)=getL (bs.drop k) mm k):=by
       show _=_
       rw [HG.out,if_neg ?_,HG2.out]
       by_cases hks:k=s
       ·subst hks
        intro e; exact hc1 ⟨rfl,by rw [HX.out]; exact e⟩
       ·exact HF.out (by omega)
      have hfirst:Hid (bs.getD s 0≠128):=by
       show _≠_
       by_cases hks:k=s
       ·subst hks
        intro e; exact hc1 ⟨rfl,by rw [HX.out]; exact e⟩
       ·exact HF.out (by omega)
      have hcase:(((k:Int) == (s:Int))=true∧(x == 128)=false∧mm≤0)∨((k:Int) == (s:Int))=false:=by
       by_cases hks:k=s
       ·left
        refine ⟨by simp [hks],?_,by have:=HZ.out hks; omega⟩
        simp; intro e; exact hc1 ⟨hks,e⟩
       ·right; simp; omega
      clear hc1
      by_cases hbig:72057594037927936≤mm
      ·have hfin:Hid (getN bs (s:Int)=(0,0,2)):=by show _=_; rw [hgn.out,getL_big hlb hbig]
       have e1:((k:Int) == (s:Int))=false:=by
        rcases hcase with ⟨_,_,h0⟩ | h0
        ·omega
        ·exact h0
       clear hcase
       go_wp2
       go_ret3
       exact ⟨by rw [hfin.out]; rfl,rfl⟩
      ·have hor:bits .or .i64 (mm * 128) (x % 128)=mm * 128+x % 128:=or7 mm (x % 128) hm0 (by omega) (by omega) (by omega)
       by_cases hx128:x<128
       ·have hfin:Hid (getN bs (s:Int)=(mm * 128+x % 128,(k:Int)+1,0)):=by show _=_; rw [hgn.out,getL_last hlb hbig (by rw [← HX.out]; exact hx128),← HX.out]
        rcases hcase with ⟨e1,e2,e3⟩ | e1
        all_goals
         go_wp2
         go_ret3
         exact ⟨by rw [hfin.out]; rfl,rfl⟩
       ·have hnext:Hid (getL (bs.drop s) 0 s=getL (bs.drop (k+1)) (mm * 128+x % 128) ((k:Int)+1)):=by
         show _=_; rw [HG2.out,getL_next hlb hbig (by rw [← HX.out]; exact hx128),← HX.out]
        rcases hcase with ⟨e1,e2,e3⟩ | e1
        all_goals
         go_wp2
         go_round
         case rel=>exact ⟨k+1,mm * 128+x % 128,by omega,by omega,by go_num,rfl,by omega,by omega,fun e=>by omega,fun _=>hfirst.out,by rw [hnext.out]; rfl⟩
         case measure=>simp [intOf]; omega
    ·have hkn':k=n:=by omega
     subst hkn'
     have hfin:Hid (getN bs (s:Int)=(0,0,1)):=by
      show _=_
      rw [HG.out]
      have hl:=HL.out
      rw [if_neg ?_,HG2.out,getL_end (by omega)]
      by_cases hsk':s<k
      ·exact HF.out hsk'
      ·rw [List.getD_eq_getElem?_getD,List.getElem?_eq_none (by omega)]; simp
     go_wp2
     go_ret3
     exact ⟨by rw [hfin.out]; rfl,rfl⟩
theorem implGetNum_any (a:Option Addr)(n cap:Nat)(bs:List Int)(p:Int)(w:World)(h:Row w a n bs)(hn:n≤1000000000000) :
  Calls Tryz.prog 269 #[.slice a n cap,.int .i64 p] w fun e w'=>e=.returned (trip (getN bs p))∧w'=w:=by
 have H0:Hid (Row w a n bs):=h
 have hby:=h.byte
 have HL:Hid (bs.length=n):=h.len
 clear h
 by_cases hp:p<0
 ·have hf:Hid (getN bs p=(0,0,3)):=by show _=_; rw [getN,if_pos (.inl hp)]
  go_enter Tryz.func269,Tryz.ntmps269
  go_wp2
  go_ret3
  exact ⟨by rw [hf.out]; rfl,rfl⟩
 ·by_cases hpn:(n:Int)<p
  ·have hf:Hid (getN bs p=(0,0,3)):=by show _=_; rw [getN,if_pos (.inr (by rw [HL.out]; exact hpn))]
   go_enter Tryz.func269,Tryz.ntmps269
   go_wp2
   go_ret3
   exact ⟨by rw [hf.out]; rfl,rfl⟩
  ·obtain ⟨s,rfl⟩:=Int.eq_ofNat_of_zero_le (show 0≤p by omega)
   have hG:getN bs (s:Int)=if (bs.getD s 0)=128 then (0,0,2) else getL (bs.drop s) 0 s:=by
    rw [getN,if_neg (by rw [HL.out]; omega),Int.toNat_natCast]
   have HG:Hid (getN bs (s:Int)=if (bs.getD s 0)=128 then (0,0,2) else getL (bs.drop s) 0 s):=hG
   clear hG
   by_cases hc1:s<n∧bs.getD s 0=128
   ·obtain ⟨hsn,h128⟩:=hc1
    obtain ⟨b,off,rfl,hb,hc⟩:=H0.out.get s hsn
    rw [h128] at hc
    have hfin:Hid (getN bs (s:Int)=(0,0,2)):=by show _=_; rw [HG.out,if_pos h128]
    clear h128
    go_enter Tryz.func269,Tryz.ntmps269
    go_wp2
    go_ret3
    exact ⟨by rw [hfin.out]; rfl,rfl⟩
   ·have hgn:Hid (getN bs (s:Int)=getL (bs.drop s) 0 s):=by
     show _=_
     rw [HG.out,if_neg ?_]
     intro e
     by_cases hsn:s<n
     ·exact hc1 ⟨hsn,e⟩
     ·rw [List.getD_eq_getElem?_getD,List.getElem?_eq_none (by have:=HL.out; omega)] at e; simp at e
    have hsx:s<n→∃ b off x,a=some ⟨b,off,none⟩∧w.cell? ⟨b,off+s,none⟩=some (.int .u8 x)∧(x == 128)=false:=by
     intro hsn
     obtain ⟨b,off,ha,_,hc⟩:=H0.out.get s hsn
     exact ⟨b,off,_,ha,hc,by simp only [beq_eq_false_iff_ne]; exact fun e=>hc1 ⟨hsn,e⟩⟩
    have HSX:Hid (s<n→∃ b off x,a=some ⟨b,off,none⟩∧w.cell? ⟨b,off+s,none⟩=some (.int .u8 x)∧(x == 128)=false):=hsx
    clear hsx hc1
    by_cases hsn:s<n
    ·obtain ⟨b0,off0,x0,rfl,hx0c,hx0n⟩:=HSX.out hsn
     go_enter Tryz.func269,Tryz.ntmps269
     go_wp2
     go_loop [8,9] (fun m i=>∃ (k:Nat) (mm:Int),k≤n∧i=.int .i64 k∧m=.int .i64 mm∧0≤mm∧mm≤9223372036854775807∧getL (bs.drop s) 0 s=getL (bs.drop k) mm k) (fun _ i=>n+1 - (intOf i).toNat)
     case atStart=>exact ⟨s,0,by omega,rfl,rfl,by omega,by omega,rfl⟩
     case round =>
      obtain ⟨k,mm,hkn,rfl,rfl,hm0,hm1,hg⟩:=hrel
      have HG2:Hid (getL (bs.drop s) 0 s=getL (bs.drop k) mm k):=hg
      clear hg
      by_cases hlt:k<n
      ·have hlb:k<bs.length:=by have:=HL.out; omega
       obtain ⟨b,off,ha,hb,hc⟩:=H0.out.get k hlt
       simp only [Option.some.injEq,Addr.mk.injEq,and_true] at ha
       obtain ⟨rfl,rfl⟩:=ha
       obtain ⟨x,hx⟩:∃ x,x=bs.getD k 0:=⟨_,rfl⟩
       have hxb:=hby k
       rw [← hx] at hc hxb
       obtain ⟨hx0,hx1⟩:=hxb
       have HX:Hid (x=bs.getD k 0):=hx
       clear hx
       have hand:bits .and .u8 x 127=x % 128:=and7 x hx0 hx1
       by_cases hbig:72057594037927936≤mm
       ·have hfin:Hid (getN bs (s:Int)=(0,0,2)):=by show _=_; rw [hgn.out,HG2.out,getL_big hlb hbig]
        go_wp2
        go_ret3
        exact ⟨by rw [hfin.out]; rfl,rfl⟩
       ·have hor:bits .or .i64 (mm * 128) (x % 128)=mm * 128+x % 128:=or7 mm (x % 128) hm0 (by omega) (by omega) (by omega)
        by_cases hx128:x<128
        ·have hfin:Hid (getN bs (s:Int)=(mm * 128+x % 128,(k:Int)+1,0)):=by show _=_; rw [hgn.out,HG2.out,getL_last hlb hbig (by rw [← HX.out]; exact hx128),← HX.out]
         go_wp2
         go_ret3
         exact ⟨by rw [hfin.out]; rfl,rfl⟩
        ·have hnext:Hid (getL (bs.drop s) 0 s=getL (bs.drop (k+1)) (mm * 128+x % 128) ((k:Int)+1)):=by
          show _=_; rw [HG2.out,getL_next hlb hbig (by rw [← HX.out]; exact hx128),← HX.out]
         go_wp2
         go_round
         case rel=>exact ⟨k+1,mm * 128+x % 128,by omega,by go_num,rfl,by omega,by omega,by rw [hnext.out]; rfl⟩
         case measure=>simp [intOf]; omega
      ·have hfin:Hid (getN bs (s:Int)=(0,0,1)):=by
        show _=_
        rw [hgn.out,HG2.out,getL_end (by have:=HL.out; omega)]
       go_wp2
       go_ret3
       exact ⟨by rw [hfin.out]; rfl,rfl⟩
    ·have hfin:Hid (getN bs (s:Int)=(0,0,1)):=by
      show _=_
      rw [hgn.out,getL_end (by have:=HL.out; omega)]
     go_enter Tryz.func269,Tryz.ntmps269
     go_wp2
     refine wp_loop_rounds 1 ?_
     rw [rounds_succ]
     go_wp2
     go_ret3
     exact ⟨by rw [hfin.out]; rfl,rfl⟩
end Go.Proofs.YtmdfbnlgfhjnoaaGreatDoor
