import Derived.Test.YtmdfbnlgfhjnoaaGreatDoorFC26
import Derived.Test.YtmdfbnlgfhjnoaaGreatDoorFC31
set_option maxRecDepth 10000
set_option maxHeartbeats 8000000
set_option linter.unusedVariables false
namespace Go.Proofs.YtmdfbnlgfhjnoaaGreatDoor
open Go.RowKit Go.Sort
def KidZ (L B:Nat)(w:World)(g d:Nat)(ks:List It):Prop:=∃ S:Nat→Prop,KidsI d S w (some ⟨g,0,none⟩) ks.length ks∧∀ b,S b→(b<L∨B≤b)∧b<w.heap.size
theorem KidZ.kept {L:Nat}{B:Nat}{w w':World}{g d:Nat}{ks:List It}(h:KidZ L B w g d ks)(hb:Below w.heap.size w w'):KidZ L B w' g d ks:=by
 obtain ⟨S,h1,h2⟩:=h
 exact ⟨S,h1.touch (P:=fun _=>False) (fun _ _ h=>h) (TouchX.of_below hb),fun b hs=>⟨(h2 b hs).1,Nat.lt_of_lt_of_le (h2 b hs).2 hb.size⟩⟩
theorem KidZ.touched {L:Nat}{B:Nat}{w w':World}{g d gb:Nat}{ks:List It}(h:KidZ L B w g d ks)(ht:Touch gb (gb+1) w w')(hlt:L≤gb∧gb<B):KidZ L B w' g d ks:=by
 obtain ⟨S,h1,h2⟩:=h
 exact ⟨S,h1.touch (fun b hb e=>by have:=(h2 b hb).1; omega) ht.toX,fun b hs=>⟨(h2 b hs).1,Nat.lt_of_lt_of_le (h2 b hs).2 ht.size⟩⟩
def OwnItZ (d L R:Nat)(w:World)(a:Option Addr)(n c:Nat)(xs:List It):Prop:=OwnIts d (fun b=>(b<L∨R≤b)∧b<w.heap.size∧(Value.slice a n c).ownBlock≠some b) w a n c xs∧∀ b,(Value.slice a n c).ownBlock=some b→R≤b
theorem ownItZ_none (d L R:Nat)(w:World):OwnItZ d L R w none 0 0 []:=⟨(OwnIts.nil d w).mono (fun _ h=>h.elim) (fun b hb=>by cases hb),fun b hb=>by cases hb⟩
theorem OwnItZ.kept {L:Nat}{d R:Nat}{w w':World}{a:Option Addr}{n c:Nat}{xs:List It}(h:OwnItZ d L R w a n c xs)(hb:Below w.heap.size w w'):OwnItZ d L R w' a n c xs :=
 ⟨(h.1.kept hb).mono (fun k hk=>⟨hk.1,Nat.lt_of_lt_of_le hk.2.1 hb.size,hk.2.2⟩) (fun b hb hc=>hc.2.2 hb),h.2⟩
theorem OwnItZ.appended {L:Nat}{d R:Nat}{w1 w:World}{a:Option Addr}{n c:Nat}{xs:List It}{y:It}{ab:Option Addr}{nb cb:Nat}{ak:Option Addr}{nk ck:Nat}{g' c':Nat}{T:Nat→Prop}
  (h:OwnItZ d L R w a n c xs) (hy:ItV d T w y ab nb cb ak nk ck) (hT:∀ b,T b→(b<L∨R≤b)∧b<w.heap.size∧(Value.slice a n c).ownBlock≠some b) (hn:n+1≤9223372036854775807)
  {vs:List Value} (hv0:w.ownsRow 0 75 5 (.slice a n c) n vs) (hv:w1.ownsRow 0 75 5 (.slice (some ⟨g',0,none⟩) (n+1) c') (n+1) (vs++itc y ab nb cb ak nk ck)) (hg:w.grownBy w1 (Value.slice a n c).ownBlock) (hl:(Value.slice a n c).ownBlock=some g'∨g'=w.heap.size) (hR:R≤w.heap.size):OwnItZ d L R w1 (some ⟨g',0,none⟩) (n+1) c' (xs++[y]):=by
 refine ⟨((h.1.appended (hy.mono hT) (fun b hb=>hb) (fun b hb hc=>hc.2.2 hb) (fun b hb=>hb.2.1) hn hv0 hv hg hl)).mono (fun k hk=>⟨hk.1,Nat.lt_of_lt_of_le hk.2.1 hg.size,fun e=>?_⟩) (fun b hb hc=>hc.2.2 hb),fun b hb=>?_⟩
 ·have e2:g'=k:=by injection e
  rcases hl with hl | hl
  ·exact hk.2.2 (by rw [hl,e2])
  ·have:=hk.2.1
   omega
 ·have e2:g'=b:=by injection hb
  rcases hl with hl | hl
  ·rw [← e2]; exact h.2 g' hl
  ·omega
theorem OwnItZ.row {L:Nat}{d R:Nat}{w:World}{a:Option Addr}{n c:Nat}{xs:List It}(h:OwnItZ d L R w a n c xs):∃ vs,w.ownsRow 0 75 5 (.slice a n c) n vs:=by
 obtain ⟨vs,h1,_⟩:=h.1.own
 exact ⟨vs,h1⟩
theorem OwnItZ.kids {L:Nat}{d R:Nat}{w:World}{a:Option Addr}{n c:Nat}{xs:List It}(h:OwnItZ d L R w a n c xs):KidsI (d+1) (fun b=>(b<L∨R≤b)∧b<w.heap.size) w a n xs:=by
 obtain ⟨vs,hv⟩:=h.row
 exact h.1.kids (fun k hk=>⟨hk.1,hk.2.1⟩) (fun b hb=>⟨.inr (h.2 b hb),(hv.lt b hb).2⟩)
theorem KidZ.grown {L:Nat}{R:Nat}{w w':World}{g d:Nat}{ks:List It}{row:Option Nat}(h:KidZ L R w g d ks)(hg:w.grownBy w' row)(hlt:∀ j,row=some j→L≤j∧j<R):KidZ L R w' g d ks:=by
 obtain ⟨S,h1,h2⟩:=h
 exact ⟨S,h1.touch (fun k hk e=>by have:=hlt k e; have:=(h2 k hk).1; omega) (touchX_g hg (P:=fun k=>row=some k) (fun k hk=>hk)),fun b hb=>⟨(h2 b hb).1,Nat.lt_of_lt_of_le (h2 b hb).2 hg.size⟩⟩
structure ItZ (L B d:Nat)(w:World)(x:It)(ab:Option Addr)(nb cb:Nat)(ak:Option Addr)(nk ck:Nat):Prop where
 it:ItV d (fun b=>(b<L∨B≤b)∧b<w.heap.size) w x ab nb cb ak nk ck
theorem ItZ.kept {L:Nat}{B d:Nat}{w w':World}{x:It}{ab:Option Addr}{nb cb:Nat}{ak:Option Addr}{nk ck:Nat}(h:ItZ L B d w x ab nb cb ak nk ck)(hb:Below w.heap.size w w'):ItZ L B d w' x ab nb cb ak nk ck:=⟨(h.it.kept hb).mono (fun b hs=>⟨hs.1,Nat.lt_of_lt_of_le hs.2 hb.size⟩)⟩
theorem ItZ.touched {L:Nat}{B d gb:Nat}{w w':World}{x:It}{ab:Option Addr}{nb cb:Nat}{ak:Option Addr}{nk ck:Nat}(h:ItZ L B d w x ab nb cb ak nk ck)(ht:Touch gb (gb+1) w w')(hlt:L≤gb∧gb<B):ItZ L B d w' x ab nb cb ak nk ck:=⟨(h.it.touch (fun b hs e=>by have:=hs.1; omega) ht.toX).mono (fun b hs=>⟨hs.1,Nat.lt_of_lt_of_le hs.2 ht.size⟩)⟩
theorem ItZ.mono {L:Nat}{B B' d:Nat}{w:World}{x:It}{ab:Option Addr}{nb cb:Nat}{ak:Option Addr}{nk ck:Nat}(h:ItZ L B d w x ab nb cb ak nk ck)(hB:B'≤B):ItZ L B' d w x ab nb cb ak nk ck:=⟨h.it.mono (fun b hs=>⟨by have:=hs.1; omega,hs.2⟩)⟩
theorem ItZ.more {L:Nat}{B d:Nat}{w:World}{x:It}{ab:Option Addr}{nb cb:Nat}{ak:Option Addr}{nk ck:Nat}(h:ItZ L B d w x ab nb cb ak nk ck):ItZ L B (d+1) w x ab nb cb ak nk ck:=⟨h.it.more⟩
theorem KidZ.itz {L:Nat}{B:Nat}{w:World}{g d ck:Nat}{ks:List It}(h:KidZ L B w g d ks)(cls tag:Int):ItZ L B d w (.mk cls tag true [] ks) none 0 0 (some ⟨g,0,none⟩) ks.length ck:=by
 obtain ⟨S,h1,h2⟩:=h
 exact ⟨⟨⟨⟨rfl,fun j hj=>absurd hj (Nat.not_lt_zero _),by simp [It.body]⟩,fun x hx=>by cases hx⟩,fun _=>rfl,by decide,h1.mono h2⟩⟩
structure ListZ (L B d:Nat)(w:World)(ao:Option Addr)(n:Nat)(ks:List It):Prop where
 kids:KidsI d (fun b=>(b<L∨B≤b)∧b<w.heap.size) w ao n ks
theorem ListZ.kept {L:Nat}{B d:Nat}{w w':World}{ao:Option Addr}{n:Nat}{ks:List It}(h:ListZ L B d w ao n ks)(hb:Below w.heap.size w w'):ListZ L B d w' ao n ks:=⟨(h.kids.touch (P:=fun _=>False) (fun _ _ h=>h) (TouchX.of_below hb)).mono (fun b hs=>⟨hs.1,Nat.lt_of_lt_of_le hs.2 hb.size⟩)⟩
theorem ListZ.itz {L:Nat}{B d:Nat}{w:World}{ao:Option Addr}{n co:Nat}{ks:List It}(h:ListZ L B d w ao n ks):ItZ L B d w (lstI ks) none 0 0 ao n co:=⟨⟨⟨⟨rfl,fun j hj=>absurd hj (Nat.not_lt_zero _),by simp [lstI,It.body]⟩,fun x hx=>by cases hx⟩,fun _=>rfl,by decide,h.kids⟩⟩
theorem kidZ_n2 {L:Nat}{B d:Nat}{X:World}{x1 x2:It}{a1:Option Addr}{n1 c1:Nat}{k1:Option Addr}{m1 e1:Nat}{a2:Option Addr}{n2 c2:Nat}{k2:Option Addr}{m2 e2:Nat}{t:Nat}(hB:B≤X.heap.size)(h1:ItZ L B d X x1 a1 n1 c1 k1 m1 e1)(h2:ItZ L B d X x2 a2 n2 c2 k2 m2 e2):KidZ L B (X.alloc (.cells #[.int .i64 x1.cls,.int .i64 x1.tag,.bool x1.cons,.slice a1 n1 c1,.slice k1 m1 e1,.int .i64 x2.cls,.int .i64 x2.tag,.bool x2.cons,.slice a2 n2 c2,.slice k2 m2 e2] t)) X.heap.size (d+1) [x1,x2]:=by
 refine ⟨fun b=>(b<L∨B≤b)∧b<X.heap.size+1,kidsI_n2 (S:=fun b=>(b<L∨B≤b)∧b<X.heap.size) h1.it h2.it (fun b hb=>⟨hb.1,by have:=hb.2; omega⟩) ⟨.inr hB,by omega⟩ rfl,fun b hb=>⟨hb.1,?_⟩⟩
 have s:(X.alloc (.cells #[.int .i64 x1.cls,.int .i64 x1.tag,.bool x1.cons,.slice a1 n1 c1,.slice k1 m1 e1,.int .i64 x2.cls,.int .i64 x2.tag,.bool x2.cons,.slice a2 n2 c2,.slice k2 m2 e2] t)).heap.size=X.heap.size+1:=by simp
 have:=hb.2
 omega
theorem ItZ.grown {L:Nat}{B d:Nat}{w w':World}{x:It}{ab:Option Addr}{nb cb:Nat}{ak:Option Addr}{nk ck:Nat}{row:Option Nat}(h:ItZ L B d w x ab nb cb ak nk ck)(hg:w.grownBy w' row)(hlt:∀ j,row=some j→L≤j∧j<B):ItZ L B d w' x ab nb cb ak nk ck :=
 ⟨(h.it.touch (fun k hk e=>by have:=hlt k e; have:=hk.1; omega) (touchX_g hg (P:=fun k=>row=some k) (fun k hk=>hk))).mono (fun b hs=>⟨hs.1,Nat.lt_of_lt_of_le hs.2 hg.size⟩)⟩
open Go.RowKit
theorem OwnU.set {B:Nat}{w:World}{a:Option Addr}{n cap:Nat}{zs:List Int}(h:OwnU B w a n cap zs){g:Nat}(hg:g<B)(i:Nat)(v:Value):OwnU B (w.setCell ⟨g,i,none⟩ v) a n cap zs:=by
 refine ⟨⟨h.row.1,?_⟩,h.rng⟩
 rcases h.row.2 with h | ⟨g',cap',cur,hv,hb,hh,r⟩
 ·exact .inl h
 ·exact .inr ⟨g',cap',cur,hv,hb,(Below.heap_setCell _ _ _ _ (by simp; omega)).trans hh,r⟩
open Go.RowKit
theorem or8 (m x:Int)(hm:0≤m)(hm':m<72057594037927936)(hx:0≤x)(hx':x<256):bits .or .u64 (m * 256) x=m * 256+x :=
 bits_join .u64 64 (by decide) wraps_u64' 8 (m * 256) x (by omega) (by omega) (by omega) hx hx' (by omega)
def wdK (bs:List Int)(off:Nat):Nat→Int
 | 0=>0
 | k+1=>wdK bs off k * 256+bs.getD (off+k) 0
theorem wdK_bd (bs:List Int)(hb:∀ k,0≤bs.getD k 0∧bs.getD k 0≤255)(off k:Nat):0≤wdK bs off k∧wdK bs off k<(256:Int) ^ k:=by
 induction k with
 | zero=>simp [wdK]
 | succ k ih =>
  have:=hb (off+k)
  rw [wdK,Int.pow_succ]
  omega
theorem wdK_8 (bs:List Int)(hb:∀ k,0≤bs.getD k 0∧bs.getD k 0≤255)(off:Nat):U64 (wdK bs off 8):=by
 have:=wdK_bd bs hb off 8
 unfold U64
 omega
theorem wdK_lt (bs:List Int)(hb:∀ k,0≤bs.getD k 0∧bs.getD k 0≤255)(off k:Nat)(hk:k<8):0≤wdK bs off k∧wdK bs off k<72057594037927936:=by
 have h1:=wdK_bd bs hb off k
 refine ⟨h1.1,?_⟩
 have h2:(256:Int) ^ k≤72057594037927936:=by
  match k,hk with
  | 0,_ | 1,_ | 2,_ | 3,_ | 4,_ | 5,_ | 6,_ | 7,_=>decide
 omega
theorem l8Word_any (a:Option Addr)(n c:Nat)(bs:List Int)(w:World)(h:Row w a n bs)(hn:8≤n)(hn2:n≤9223372036854775807) :
  Calls Tryz.prog 123 #[.slice a n c] w fun e w'=>e=.returned (.int .u64 (wdK bs 0 8))∧w'=w:=by
 have H0:Hid (Row w a n bs):=h
 clear h
 go_enter Tryz.func123,Tryz.ntmps123
 go_wp2
 go_loop [3,4] (fun x i=>∃ (k:Nat) (y:Int),k≤8∧i=.int .i64 k∧x=.int .u64 y∧Hid (y=wdK bs 0 k)) (fun _ i=>8 - (intOf i).toNat)
 case atStart=>exact ⟨0,0,by decide,rfl,rfl,rfl⟩
 case round =>
  obtain ⟨k,y,hk,rfl,rfl,HY⟩:=hrel
  by_cases hlt:k<8
  ·have hlti:(k:Int)<8:=by omega
   have hlt2:(k:Int)<(n:Int):=by omega
   obtain ⟨b,off,rfl,hlb,hc⟩:=H0.out.get k (by omega)
   have hxb:=H0.out.byte k
   obtain ⟨x,hx⟩:∃ x,x=bs.getD k 0:=⟨_,rfl⟩
   rw [← hx] at hc hxb
   obtain ⟨hx0,hx1⟩:=hxb
   have hy:=wdK_lt bs H0.out.byte 0 k hlt
   rw [← show y=wdK bs 0 k from HY.out] at hy
   obtain ⟨hy0,hy1⟩:=hy
   have hor:=or8 y x hy0 hy1 hx0 (by omega)
   have HN:Hid (y * 256+x=wdK bs 0 (k+1)):=by show _=_; rw [wdK,HY.out,hx,Nat.zero_add]
   clear hx
   go_wp2
   refine ⟨⟨k+1,y * 256+x,by omega,by go_num,rfl,HN⟩,by simp [intOf]; omega⟩
  ·obtain rfl:k=8:=by omega
   go_wp2
   go_ret
   exact ⟨by rw [HY.out]; rfl,rfl⟩
def dgs (bs:List Int)(n:Nat):List Int:=(List.range n).map fun i=>wdK bs (8 * i) 8
theorem dgs_len (bs:List Int)(n:Nat):(dgs bs n).length=n:=by simp [dgs]
theorem dgs_get (bs:List Int)(n i:Nat)(h:i<n):(dgs bs n).getD i 0=wdK bs (8 * i) 8:=by simp [dgs,h]
theorem dgs_bd (bs:List Int)(hb:∀ k,0≤bs.getD k 0∧bs.getD k 0≤255)(n:Nat):∀ k,U64 ((dgs bs n).getD k 0):=by
 intro k
 by_cases h:k<n
 ·rw [dgs_get bs n k h]; exact wdK_8 bs hb _
 ·rw [List.getD_eq_getElem?_getD,List.getElem?_eq_none (by rw [dgs_len]; omega)]; simp [U64]
theorem half_keep (zs:List Int)(k:Nat)(hk:k<zs.length):(half zs k).set k 0=half zs k:=by
 apply List.ext_getElem?
 intro i
 rw [List.getElem?_set]
 by_cases e:k=i
 ·subst e
  rw [if_pos rfl]
  unfold half
  rw [List.getElem?_append_right (by simp; omega),List.getElem?_replicate]
  simp [List.length_take,Nat.min_eq_left (Nat.le_of_lt hk)]
 ·rw [if_neg e]
theorem readDigests_any (a:Option Addr)(n c:Nat)(bs:List Int)(w:World)(h:Row w a n bs)(hn:n≤1000000)(hc:n≤c) :
  Calls Tryz.prog 283 #[.slice a n c] w fun e w'=>∃ ar,e=.returned (.slice ar (n / 8) (n / 8))∧OwnU w.heap.size w' ar (n / 8) (n / 8) (dgs bs (n / 8))∧Below w.heap.size w w':=by
 obtain ⟨i0,hi,hz0,hz1,hz2⟩:=info_parts Tryz.infoU
 have H0:Hid (Row w a n bs):=h
 have HL:Hid (bs.length=n):=h.len
 clear h
 obtain ⟨m,hm⟩:∃ m,m=n / 8:=⟨_,rfl⟩
 have HM:Hid (m=n / 8):=hm
 have hmi:(n:Int) / 8=(m:Int):=by omega
 have hm8:8 * m≤n:=by omega
 rw [← hm]
 clear hm
 have t1:(n:Int).tdiv 8=(m:Int):=by rw [Int.tdiv_eq_ediv_of_nonneg (by omega)]; exact hmi
 go_enter Tryz.func283,Tryz.ntmps283
 go_wp2_with (first | (at_make; refine wpList_make_full _ rfl _ _ 158 rfl w.heap.size 25 i0 _ 1 Tryz.underlying158 hi hz0 hz1 _ _ _ _ m rfl rfl rfl rfl (by rw [hz2]; omega) (by unfold maxLen; omega) (by exact Nat.le_refl _) ?_; intro w2 hown hgrow))
 have hbl:Below w.heap.size w w2:=(Below.refl _ _).grown hgrow (Nat.le_refl _) (by simp)
 have HST:Hid (OwnU w.heap.size w2 (some ⟨w.heap.size,0,none⟩) m m (half (dgs bs m) 0)):=by
  show OwnU _ _ _ _ _ _
  rw [half_zero,dgs_len]
  exact ⟨madeU hown,u64_rep m⟩
 clear hgrow hown
 go_loopw [4,6,13] (fun _ _ i wr=>∃ k:Nat,k≤m∧i=.int .i64 k∧Hid (OwnU w.heap.size wr (some ⟨w.heap.size,0,none⟩) m m (half (dgs bs m) k))∧Below w.heap.size w wr) (fun _ _ i _=>m - (intOf i).toNat)
 case atStart=>exact ⟨0,Nat.zero_le _,rfl,HST,hbl⟩
 case round =>
  obtain ⟨k,hk,rfl,HO,hbr⟩:=hrel
  clear HST hbl
  by_cases hlt:k<m
  ·have hlti:(k:Int)<(m:Int):=by omega
   have h8k:8 * k+8≤n:=by omega
   have e8:8 * ((k:Int)+1)=8 * (k:Int)+8:=by omega
   have u1:(8 * (k:Int)).toNat=8 * k:=by omega
   have u2:(8 * (k:Int)+8).toNat=8 * k+8:=by omega
   have hb0:0≤8 * (k:Int):=by omega
   have hb1:8 * (k:Int)+8≤(n:Int):=by omega
   have hb2:8 * (k:Int)+8≤(c:Int):=by omega
   obtain ⟨b,off,rfl,hlb,_⟩:=H0.out.get (8 * k) (by omega)
   go_upto_region 5 with fail
   have hHL:k<(dgs bs m).length:=by rw [dgs_len]; exact hlt
   have HI:Hid (OwnU w.heap.size wr (some ⟨w.heap.size,0,none⟩) m m ((half (dgs bs m) k).set k (wdK bs (8 * k) 0))):=by
    show OwnU _ _ _ _ _ _
    rw [wdK,half_keep _ _ hHL]
    exact HO.out
   have HBR:Hid (Below w.heap.size w wr):=hbr
   clear HO hbr
   go_wp2
   go_loopw [6,24] (fun _ i wx=>∃ j:Nat,j≤8∧i=.int .i64 j∧Hid (OwnU w.heap.size wx (some ⟨w.heap.size,0,none⟩) m m ((half (dgs bs m) k).set k (wdK bs (8 * k) j)))∧Below w.heap.size w wx) (fun _ i _=>8 - (intOf i).toNat)
   case atStart=>exact ⟨0,by decide,rfl,HI,HBR.out⟩
   case round =>
    obtain ⟨j,hj,rfl,HJ,hbx⟩:=hrel
    clear HI HBR
    by_cases hjl:j<8
    ·have hjli:(j:Int)<8:=by omega
     obtain ⟨b',off',hbe,hlb',hc0⟩:=H0.out.get (8 * k+j) (by omega)
     simp only [Option.some.injEq,Addr.mk.injEq,and_true] at hbe
     obtain ⟨rfl,rfl⟩:=hbe
     have hcx:wr.cell? ⟨b,off+8 * k+j,none⟩=some (.int .u8 (bs.getD (8 * k+j) 0)):=by rw [Nat.add_assoc]; exact (hbx.cell (p:=⟨b,off+(8 * k+j),none⟩) hlb).trans hc0
     have hxb:=H0.out.byte (8 * k+j)
     obtain ⟨x,hx⟩:∃ x,x=bs.getD (8 * k+j) 0:=⟨_,rfl⟩
     rw [← hx] at hcx hxb
     obtain ⟨hx0,hx1⟩:=hxb
     have hy:=wdK_lt bs H0.out.byte (8 * k) j hjl
     have hlen:(half (dgs bs m) k).length=m:=by rw [half_len _ _ (by omega),dgs_len]
     obtain ⟨y,hyy⟩:∃ y,y=wdK bs (8 * k) j:=⟨_,rfl⟩
     have HN:Hid (y * 256+x=wdK bs (8 * k) (j+1)):=by show _=_; rw [wdK,← hyy,hx]
     have hcy:wr.cell? ⟨w.heap.size,k,none⟩=some (.int .u64 y):=by
      rw [HJ.out.row.cellAt k (by omega),← hyy,List.getElem?_map,List.getElem?_set]
      simp [hlen,hlt]
     rw [← hyy] at hy
     obtain ⟨hy0,hy1⟩:=hy
     have hor:=or8 y x hy0 hy1 hx0 (by omega)
     have hfr:wr.frozen? ⟨w.heap.size,k,none⟩=false:=HJ.out.row.frozenAt k
     have hs:=(HJ.out.row.stored k (.int .u64 (y * 256+x))).1
     rw [← List.map_set,List.set_set,HN.out] at hs
     have hrg:=u64_set (u64_half (dgs_bd bs H0.out.byte m) k) k (x:=wdK bs (8 * k) (j+1)) (by have h1:=wdK_bd bs H0.out.byte (8 * k) (j+1); rw [← HN.out] at h1 ⊢; unfold U64; omega)
     have HNX:Hid (OwnU w.heap.size (wr.setCell ⟨w.heap.size,k,none⟩ (.int .u64 (y * 256+x))) (some ⟨w.heap.size,0,none⟩) m m ((half (dgs bs m) k).set k (wdK bs (8 * k) (j+1)))):=⟨by rw [HN.out]; exact hs,hrg⟩
     have HBN:Hid (Below w.heap.size w (wr.setCell ⟨w.heap.size,k,none⟩ (.int .u64 (y * 256+x)))):=hbx.setCell (Nat.le_refl _) _
     clear hs hrg HJ hbx hx hyy hc0 hlb'
     go_wp2
     refine ⟨⟨j+1,by omega,by go_num,HNX,HBN.out⟩,by simp [intOf]; omega⟩
    ·obtain rfl:j=8:=by omega
     have HNX:Hid (OwnU w.heap.size wr (some ⟨w.heap.size,0,none⟩) m m (half (dgs bs m) (k+1))):=by
      have:=HJ.out
      rw [← dgs_get bs m k hlt,half_set _ _ hHL] at this
      exact this
     clear HJ
     go_wp2
     refine ⟨⟨k+1,by omega,by go_num,HNX,hbx⟩,by simp [intOf]; omega⟩
  ·obtain rfl:k=m:=by omega
   have HR:Hid (OwnU w.heap.size wr (some ⟨w.heap.size,0,none⟩) k k (dgs bs k)):=by
    have:=HO.out
    have e:=half_all (dgs bs k)
    rw [dgs_len] at e
    rwa [e] at this
   go_wp2
   go_ret
   exact ⟨_,rfl,HR.out,hbr⟩
end Go.Proofs.YtmdfbnlgfhjnoaaGreatDoor
