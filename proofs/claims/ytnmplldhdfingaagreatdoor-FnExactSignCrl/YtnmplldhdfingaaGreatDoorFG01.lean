import Derived.WalkKit
import Derived.OpenShut
import Derived.WalkSpells
import Derived.WalkLawsBesides
import Derived.Deep.QuietTactic
import Derived.BigQuiet
import Derived.Test.YtnmplldhdfingaaGreatDoorProg
set_option maxRecDepth 10000
set_option maxHeartbeats 8000000
set_option linter.unusedVariables false
namespace Go.Proofs.YtnmplldhdfingaaGreatDoor
open Go.RowKit
structure Row (w:World)(a:Option Addr)(n:Nat)(bs:List Int):Prop where
 len:bs.length=n
 get:∀ k,k<n→∃ b off,a=some ⟨b,off,none⟩∧b<w.heap.size∧w.cell? ⟨b,off+k,none⟩=some (.int .u8 (bs.getD k 0))
 byte:∀ k,0≤bs.getD k 0∧bs.getD k 0≤255
theorem Row.kept {w w':World}{a:Option Addr}{n:Nat}{bs:List Int}(h:Row w a n bs)(hb:Below w.heap.size w w'):Row w' a n bs:=by
 refine ⟨h.len,fun k hk=>?_,h.byte⟩
 obtain ⟨b,off,ha,hlt,hc⟩:=h.get k hk
 exact ⟨b,off,ha,Nat.lt_of_lt_of_le hlt hb.size,(hb.cell (p:=⟨b,off+k,none⟩) hlt).trans hc⟩
structure Own (B:Nat)(w:World)(a:Option Addr)(n cap:Nat)(bs:List Int):Prop where
 row:w.ownsRow B 5 1 (.slice a n cap) n (bs.map (Value.int .u8))
 byte:∀ k,0≤bs.getD k 0∧bs.getD k 0≤255
theorem Own.toRow {B:Nat}{w:World}{a:Option Addr}{n cap:Nat}{bs:List Int}(h:Own B w a n cap bs):Row w a n bs:=by
 have hl:bs.length=n:=by simpa using h.row.1
 refine ⟨hl,fun k hk=>?_,h.byte⟩
 rcases h.row.2 with ⟨_,h0⟩ | ⟨g,cap',cur,hv,hb,hg,r⟩
 ·omega
 ·simp only [Value.slice.injEq] at hv
  obtain ⟨rfl,_,rfl⟩:=hv
  refine ⟨g,0,rfl,(Array.getElem?_eq_some_iff.1 hg).1,?_⟩
  rw [Nat.zero_add,World.ownsRow.cellAt h.row k (by omega)]
  simp [show k<bs.length by omega]
theorem ownsRow_below {B e size n:Nat}{w w':World}{v:Value}{xs:List Value}(h:w.ownsRow B e size v n xs)(hb:Below w.heap.size w w'):w'.ownsRow B e size v n xs:=by
 refine ⟨h.1,?_⟩
 rcases h.2 with hn | ⟨g,cap,cur,rfl,hbb,hgg,rest⟩
 ·exact .inl hn
 ·exact .inr ⟨g,cap,cur,rfl,hbb,(hb.block g (Array.getElem?_eq_some_iff.1 hgg).1).trans hgg,rest⟩
theorem Own.kept {B:Nat}{w w':World}{a:Option Addr}{n cap:Nat}{bs:List Int}(h:Own B w a n cap bs)(hb:Below w.heap.size w w'):Own B w' a n cap bs :=
 ⟨ownsRow_below h.row hb,h.byte⟩
theorem Own.drew {B:Nat}{w:World}{a:Option Addr}{n cap:Nat}{bs:List Int}(h:Own B w a n cap bs):Own B w.drew a n cap bs:=⟨h.row.drew,h.byte⟩
theorem Own.length {B:Nat}{w:World}{a:Option Addr}{n cap:Nat}{bs:List Int}(h:Own B w a n cap bs):bs.length=n:=by simpa using h.row.1
theorem Own.mono {B B':Nat}{w:World}{a:Option Addr}{n cap:Nat}{bs:List Int}(h:Own B w a n cap bs)(hB:B'≤B):Own B' w a n cap bs:=by
 refine ⟨⟨h.row.1,?_⟩,h.byte⟩
 rcases h.row.2 with hn | ⟨g,cap,cur,hv,hbb,rest⟩
 ·exact .inl hn
 ·exact .inr ⟨g,cap,cur,hv,by omega,rest⟩
theorem set_append_mid {α:Type}(l:List α)(r:List α)(x y:α)(k:Nat)(h:l.length=k):(l++y::r).set k x=l++x::r:=by
 subst h; simp
def half (bs:List Int)(k:Nat):List Int:=bs.take k++List.replicate (bs.length - k) 0
theorem half_zero (bs:List Int):half bs 0=List.replicate bs.length 0:=by simp [half]
theorem half_all (bs:List Int):half bs bs.length=bs:=by simp [half]
theorem half_len (bs:List Int)(k:Nat)(h:k≤bs.length):(half bs k).length=bs.length:=by simp [half]; omega
theorem half_set (bs:List Int)(k:Nat)(h:k<bs.length):(half bs k).set k (bs.getD k 0)=half bs (k+1):=by
 unfold half
 rw [show bs.length - k=(bs.length - (k+1))+1 by omega,List.replicate_succ,set_append_mid _ _ _ _ _ (by simp; omega)]
 have e:bs.getD k 0=bs[k]:=by simp [h]
 rw [e,List.take_succ_eq_append_getElem h,List.append_assoc]
 rfl
theorem getD_set_bytes {l:List Int}(h:∀ k,0≤l.getD k 0∧l.getD k 0≤255)(i:Nat)(x:Int)(hx:0≤x∧x≤255):∀ k,0≤(l.set i x).getD k 0∧(l.set i x).getD k 0≤255:=by
 intro k
 rw [List.getD_eq_getElem?_getD,List.getElem?_set]
 have:=h k
 rw [List.getD_eq_getElem?_getD] at this
 split
 ·split <;> simp [hx.1,hx.2]
 ·exact this
theorem take_bytes {bs:List Int}(h:∀ k,0≤bs.getD k 0∧bs.getD k 0≤255)(j:Nat):∀ k,0≤(bs.take j).getD k 0∧(bs.take j).getD k 0≤255:=by
 intro k
 rw [List.getD_eq_getElem?_getD,List.getElem?_take]
 split
 ·simpa [List.getD_eq_getElem?_getD] using h k
 ·simp
theorem Own.store {B:Nat}{w:World}{g n cap:Nat}{bs:List Int}(h:Own B w (some ⟨g,0,none⟩) n cap bs)(j:Nat)(x:Int)(hx:0≤x∧x≤255) :
  Own B (w.setCell ⟨g,j,none⟩ (.int .u8 x)) (some ⟨g,0,none⟩) n cap (bs.set j x) :=
 ⟨by rw [List.map_set]; exact (h.row.stored j (.int .u8 x)).1,getD_set_bytes h.byte j x hx⟩
theorem own_made {B n:Nat}{w:World}{v:Option Addr}(h:w.ownsRow B 5 1 (.slice v n n) n (madeCells (Value.int .u8 0).cells (n * 1)).toList):Own B w v n n (List.replicate n 0):=by
 refine ⟨?_,?_⟩
 ·have e:(madeCells (Value.int .u8 0).cells (n * 1)).toList=(List.replicate n (0:Int)).map (Value.int .u8):=by
   rw [List.map_replicate,Nat.mul_one]; exact toList_madeCells_one _ _
  rwa [e] at h
 ·intro k
  rw [List.getD_eq_getElem?_getD,List.getElem?_replicate]
  split <;> simp
theorem Own.shape {B:Nat}{w:World}{a:Option Addr}{n cap:Nat}{bs:List Int}(h:Own B w a n cap bs)(hn:0<n):∃ g,a=some ⟨g,0,none⟩:=by
 rcases h.row.2 with ⟨_,h0⟩ | ⟨g,cap',cur,hv,_⟩
 ·omega
 ·simp only [Value.slice.injEq] at hv
  exact ⟨g,hv.1⟩
theorem snoc_byte {xs:List Int}(h:∀ k,0≤xs.getD k 0∧xs.getD k 0≤255)(x:Int)(hx:0≤x∧x≤255):∀ k,0≤(xs++[x]).getD k 0∧(xs++[x]).getD k 0≤255:=by
 intro k
 rw [List.getD_eq_getElem?_getD,List.getElem?_append]
 split
 ·simpa [List.getD_eq_getElem?_getD] using h k
 ·rw [List.getElem?_singleton]
  split <;> simp [hx.1,hx.2]
theorem append_byte {xs ys:List Int}(h:∀ k,0≤xs.getD k 0∧xs.getD k 0≤255)(hy:∀ k,0≤ys.getD k 0∧ys.getD k 0≤255):∀ k,0≤(xs++ys).getD k 0∧(xs++ys).getD k 0≤255:=by
 intro k
 rw [List.getD_eq_getElem?_getD,List.getElem?_append]
 split
 ·simpa [List.getD_eq_getElem?_getD] using h k
 ·simpa [List.getD_eq_getElem?_getD] using hy (k - xs.length)
theorem own_appended {B:Nat}{w:World}{v:Value}{m:Nat}{xs ys:List Int}(h:w.ownsRow B 5 1 v m (xs.map (Value.int .u8)++ys.map (Value.int .u8)))(hx:∀ k,0≤xs.getD k 0∧xs.getD k 0≤255)(hy:∀ k,0≤ys.getD k 0∧ys.getD k 0≤255) :
  ∃ a cap,v=.slice a m cap∧Own B w a m cap (xs++ys):=by
 rw [← List.map_append] at h
 rcases h.2 with ⟨rfl,rfl⟩ | ⟨g,cap,cur,rfl,r⟩
 ·exact ⟨_,_,rfl,h,append_byte hx hy⟩
 ·exact ⟨_,_,rfl,h,append_byte hx hy⟩
theorem below_appended {B:Nat}{w0 w w1:World}{v:Value}{n:Nat}{xs:List Value}(hb:Below B w0 w)(hB:B≤w.heap.size)(h:w.ownsRow B 5 1 v n xs)(hg:w.grownBy w1 v.ownBlock):Below B w0 w1 :=
 hb.grown hg hB (fun k hk=>(h.lt k hk).1)
def IsRow (k:IntKind)(w:World)(a:Option Addr)(len cap:Nat)(zs:List Int):Prop :=
 (a=none∧len=0∧cap=0∧zs = []) ∨
 ∃ x,a=some x∧len≤cap∧cap≤maxLen∧zs.length=cap∧(∀ i,i<zs.length→w.cell? (x.add i)=some (.int k (zs.getD i 0)))∧∀ n∈zs,(Lit.int k n).wf=true
theorem wf_u8 {n:Int}(h:(Lit.int .u8 n).wf=true):0≤n∧n≤255:=by
 exact bounds_u8 h
theorem IsRow.row {w:World}{a:Option Addr}{len cap:Nat}{zs:List Int}(h:IsRow .u8 w a len cap zs):Row w a len (zs.take len)∧len≤maxLen:=by
 rcases h with ⟨rfl,rfl,rfl,rfl⟩ | ⟨x,rfl,hl,hm,hz,hc,hw⟩
 ·exact ⟨⟨rfl,fun k hk=>absurd hk (Nat.not_lt_zero _),by simp⟩,by decide⟩
 ·refine ⟨⟨by simp; omega,fun k hk=>?_,take_bytes ?_ len⟩,by omega⟩
  ·have h0:=hc k (by omega)
   obtain ⟨b,off,spot⟩:=x
   have hs:spot=none:=by simpa [Addr.add] using World.cell?_spot (hc 0 (by omega))
   subst hs
   have e:(⟨b,off,none⟩:Addr).add k=⟨b,off+k,none⟩:=Addr.add_lit ..
   rw [e] at h0
   refine ⟨b,off,rfl,World.block_lt_of_cell? w _ h0,h0.trans ?_⟩
   simp [hk]
  ·intro k
   by_cases hk:k<zs.length
   ·have:=wf_u8 (hw (zs.getD k 0) (by simp [hk]))
    exact this
   ·rw [List.getD_eq_getElem?_getD,List.getElem?_eq_none (by omega)]; simp
theorem Own.nil {B:Nat}{w:World}{a:Option Addr}{n cap:Nat}{bs:List Int}(h:Own B w a n cap bs):a=none→cap=0:=by
 intro e
 rcases h.row.2 with ⟨hv,_⟩ | ⟨g,cap',cur,hv,_⟩
 ·simp only [Value.slice.injEq] at hv; exact hv.2.2
 ·simp only [Value.slice.injEq] at hv; rw [hv.1] at e; cases e
theorem Row.take {w:World}{a:Option Addr}{n:Nat}{bs:List Int}(h:Row w a n bs)(k:Nat)(hk:k≤n):Row w a k (bs.take k):=by
 refine ⟨by rw [List.length_take,h.len]; omega,fun j hj=>?_,take_bytes h.byte k⟩
 obtain ⟨b,off,ha,hb,hc⟩:=h.get j (by omega)
 exact ⟨b,off,ha,hb,hc.trans (by simp [hj])⟩
open Go.RowKit
theorem take_next {xs ys:List Int}{k:Nat}(h:xs.take k=ys.take k)(e:xs.getD k 0=ys.getD k 0)(hx:k<xs.length)(hy:k<ys.length):xs.take (k+1)=ys.take (k+1):=by
 rw [List.take_succ_eq_append_getElem hx,List.take_succ_eq_append_getElem hy,h]
 simp [hx,hy] at e
 rw [e]
theorem take_whole {xs ys:List Int}{k:Nat}(h:xs.take k=ys.take k)(hx:xs.length≤k)(hy:ys.length≤k):xs=ys:=by
 rwa [List.take_of_length_le hx,List.take_of_length_le hy] at h
theorem Tryz.info5:(Tryz.prog.info? 5).map (fun i=>(i.zero,i.size,i.bytes))=some (some (.int .u8 0),1,1):=by kernel_rfl
theorem toByteS_any (a:Option Addr)(n cap:Nat)(bs:List Int)(w:World)(h:Row w a n bs)(hn:n≤1048576) :
  Calls Tryz.prog 22 #[.slice a n cap] w fun e w'=>∃ a',e=.returned (.slice a' n n)∧Own w.heap.size w' a' n n bs∧Below w.heap.size w w':=by
 obtain ⟨i0,hi,hz0,hz1,hz2⟩:=info_parts Tryz.info5
 have hlen:=h.len
 have hby:=h.byte
 have HL:Hid (bs.length=n):=hlen
 clear hlen
 go_enter Tryz.func22,Tryz.ntmps22
 go_wp2_with (first | (at_make; refine wpList_make_full _ rfl _ _ 26 rfl w.heap.size 5 i0 (.int .u8 0) 1 Tryz.underlying26 hi hz0 hz1 _ _ _ _ n rfl rfl rfl rfl (by rw [hz2]; omega) (by unfold maxLen; omega) (by exact Nat.le_refl _) ?_; intro w1 hown hgrow))
 have ho:=own_made hown
 have hbl:Below w.heap.size w w1:=(Below.refl _ _).grown hgrow (Nat.le_refl _) (by simp)
 clear hown hgrow hi hz0 hz1 hz2
 have H0:Hid (Row w a n bs):=h
 clear h
 go_loopw [4] (fun i wr=>∃ k:Nat,k≤n∧i=.int .i64 k∧Own w.heap.size wr (some ⟨w.heap.size,0,none⟩) n n (half bs k)∧Below w.heap.size w wr) (fun i _=>n - (intOf i).toNat)
 case atStart=>exact ⟨0,Nat.zero_le _,rfl,by rw [half_zero,HL.out]; exact ho,hbl⟩
 case round =>
  obtain ⟨k,hk,rfl,hor,hbr⟩:=hrel
  by_cases hlt:k<n
  ·obtain ⟨b,off,rfl,hb,hc⟩:=H0.out.get k hlt
   have hcr:wr.cell? ⟨b,off+k,none⟩=some (.int .u8 (bs.getD k 0)):=(hbr.cell (p:=⟨b,off+k,none⟩) hb).trans hc
   have hfr:wr.frozen? ⟨w.heap.size,k,none⟩=false:=hor.row.frozenAt k
   obtain ⟨y,hy⟩:∃ y,wr.cell? ⟨w.heap.size,k,none⟩=some y:=⟨_,(hor.row.cellAt k (by omega)).trans (List.getElem?_eq_getElem (by simp [half_len bs k (by have:=HL.out; omega),HL.out]; exact hlt))⟩
   have hs:=hor.store k (bs.getD k 0) (hby k)
   rw [half_set bs k (by have:=HL.out; omega)] at hs
   have hb2:Below w.heap.size w (wr.setCell ⟨w.heap.size,k,none⟩ (.int .u8 (bs.getD k 0))):=hbr.setCell (Nat.le_refl _) _
   clear hc hor hbr
   go_wp2
   go_roundw
   case rel=>exact ⟨k+1,by omega,by go_num,hs,hb2⟩
   case measure=>simp [intOf]; omega
  ·have hkn:k=n:=by omega
   subst hkn
   rw [← HL.out,half_all] at hor
   go_wp2
   go_ret
   exact ⟨_,rfl,by rw [HL.out] at hor; exact hor,hbr⟩
theorem eqByteS_any (a b:Option Addr)(n m ca cb:Nat)(xs ys:List Int)(w:World)(hx:Row w a n xs)(hy:Row w b m ys)(hn:n≤maxLen)(hm:m≤maxLen) :
  Calls Tryz.prog 29 #[.slice a n ca,.slice b m cb] w fun e w'=>e=.returned (.bool (decide (xs=ys)))∧Below w.heap.size w w':=by
 unfold maxLen at hn hm
 have HX:Hid (Row w a n xs):=hx
 have HY:Hid (Row w b m ys):=hy
 clear hx hy
 by_cases hnm:n=m
 ·subst hnm
  go_enter Tryz.func29,Tryz.ntmps29
  go_wp2
  go_loopw [5] (fun i wr=>∃ k:Nat,k≤n∧i=.int .i64 k∧Below w.heap.size w wr∧xs.take k=ys.take k) (fun i _=>n - (intOf i).toNat)
  case atStart=>exact ⟨0,Nat.zero_le _,rfl,Below.refl _ _,by simp⟩
  case round =>
   obtain ⟨k,hk,rfl,hbr,hpre⟩:=hrel
   by_cases hlt:k<n
   ·obtain ⟨b1,off1,rfl,hb1,hc1⟩:=HX.out.get k hlt
    obtain ⟨b2,off2,rfl,hb2,hc2⟩:=HY.out.get k hlt
    have hr1:wr.cell? ⟨b1,off1+k,none⟩=some (.int .u8 (xs.getD k 0)):=(hbr.cell (p:=⟨b1,off1+k,none⟩) hb1).trans hc1
    have hr2:wr.cell? ⟨b2,off2+k,none⟩=some (.int .u8 (ys.getD k 0)):=(hbr.cell (p:=⟨b2,off2+k,none⟩) hb2).trans hc2
    clear hc1 hc2
    have HP:Hid (xs.take k=ys.take k):=hpre
    clear hpre
    obtain ⟨x,hx⟩:∃ x,x=xs.getD k 0:=⟨_,rfl⟩
    obtain ⟨y,hy⟩:∃ y,y=ys.getD k 0:=⟨_,rfl⟩
    rw [← hx] at hr1
    rw [← hy] at hr2
    have Hx:Hid (x=xs.getD k 0):=hx
    have Hy:Hid (y=ys.getD k 0):=hy
    clear hx hy
    have lx:=HX.out.len
    have ly:=HY.out.len
    have LX:Hid (xs.length=n):=lx
    have LY:Hid (ys.length=n):=ly
    clear lx ly
    by_cases hxy:x=y
    ·subst hxy
     go_wp2
     go_quiet (fail)
     go_wp2
     go_roundw
     case rel=>exact ⟨k+1,by omega,by go_num,(below_drewN hbr nq),take_next HP.out (Hx.out.symm.trans Hy.out) (by have:=LX.out; omega) (by have:=LY.out; omega)⟩
     case measure=>simp [intOf]; omega
    ·have hne:(x != y)=true:=by simp [hxy]
     go_wp2
     go_quiet (fail)
     go_wp2
     go_ret
     exact ⟨by rw [decide_eq_false (fun e=>hxy (by rw [Hx.out,Hy.out,e]))]; rfl,below_drewN hbr nq⟩
   ·go_wp2
    go_ret
    exact ⟨by rw [decide_eq_true (take_whole hpre (by have:=HX.out.len; omega) (by have:=HY.out.len; omega))]; rfl,hbr⟩
 ·have hne:((n:Int) != (m:Int))=true:=by simp; omega
  go_enter Tryz.func29,Tryz.ntmps29
  go_wp2
  go_ret
  exact ⟨by rw [decide_eq_false (fun e=>hnm (by rw [← HX.out.len,← HY.out.len,e]))]; rfl,Below.refl _ _⟩
open Go.RowKit
def marks (k n:Nat):List Int:=(List.range n).map fun i=>((k+i:Nat):Int) % 256
theorem marks_len (k n:Nat):(marks k n).length=n:=by simp [marks]
theorem marks_get (k n i:Nat)(h:i<n):(marks k n).getD i 0=((k+i:Nat):Int) % 256:=by simp [marks,h]
theorem marks_succ (k n:Nat):marks k (n+1)=marks k n++[((k+n:Nat):Int) % 256]:=by simp [marks,List.range_succ]
def mkd (bs:List Int)(k j:Nat):List Int:=marks k j++bs.drop j
theorem mkd_zero (bs:List Int)(k:Nat):mkd bs k 0=bs:=by simp [mkd,marks]
theorem mkd_all (bs:List Int)(k:Nat):mkd bs k bs.length=marks k bs.length:=by simp [mkd]
theorem mkd_set (bs:List Int)(k j:Nat)(h:j<bs.length):(mkd bs k j).set j (((k+j:Nat):Int) % 256)=mkd bs k (j+1):=by
 unfold mkd
 rw [List.drop_eq_getElem_cons h,set_append_mid _ _ _ _ _ (marks_len k j),marks_succ,List.append_assoc]
 rfl
theorem mkd_len (bs:List Int)(k j:Nat)(h:j≤bs.length):(mkd bs k j).length=bs.length:=by simp [mkd,marks_len]; omega
theorem grown_trans {a b c:World}{r:Option Nat}(h:a.grownBy b r)(k:b.grownBy c r):a.grownBy c r :=
 ⟨k.os.trans h.os,k.tape.trans h.tape,k.output.trans h.output,Nat.le_trans h.size k.size,fun i hi hr=>(k.block i (Nat.lt_of_lt_of_le hi h.size) hr).trans (h.block i hi hr)⟩
end Go.Proofs.YtnmplldhdfingaaGreatDoor
