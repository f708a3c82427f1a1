import Derived.Deep.Slices
import Derived.ChangeArms
import Derived.ChangeSlices
import Derived.ProofKit
import Derived.Test.YtmdfbnlgfhjnoaaGreatDoorFC24
import Derived.Test.YtmdfbnlgfhjnoaaGreatDoorFC21
set_option maxRecDepth 10000
set_option maxHeartbeats 8000000
set_option linter.unusedVariables false
namespace Go.Proofs.YtmdfbnlgfhjnoaaGreatDoor
open Go.RowKit
theorem alloc_old (w:World)(o:Obj)(g:Nat)(hg:g<w.heap.size):(w.alloc o).heap[g]? = w.heap[g]?:=((Below.refl w.heap.size w).alloc (Nat.le_refl _) o).block g hg
structure BoxT (t g:Nat)(W:World)(x:It)(ab:Option Addr)(nb cb:Nat)(ak:Option Addr)(nk ck:Nat):Prop where
 heap:W.heap[g]? = some (.cells #[.int .i64 x.cls,.int .i64 x.tag,.bool x.cons,.slice ab nb cb,.slice ak nk ck] t (0,0))
theorem boxT_new (t:Nat)(w:World)(x:It)(ab:Option Addr)(nb cb:Nat)(ak:Option Addr)(nk ck:Nat):BoxT t w.heap.size (w.alloc (.cells #[.int .i64 x.cls,.int .i64 x.tag,.bool x.cons,.slice ab nb cb,.slice ak nk ck] t)) x ab nb cb ak nk ck:=⟨heap_alloc_new w _⟩
theorem BoxT.kept {t g:Nat}{W W':World}{x:It}{ab:Option Addr}{nb cb:Nat}{ak:Option Addr}{nk ck:Nat}(h:BoxT t g W x ab nb cb ak nk ck)(hb:Below W.heap.size W W'):BoxT t g W' x ab nb cb ak nk ck:=⟨(hb.block _ (Array.getElem?_eq_some_iff.1 h.heap).1).trans h.heap⟩
theorem BoxT.lt {t g:Nat}{W:World}{x:It}{ab:Option Addr}{nb cb:Nat}{ak:Option Addr}{nk ck:Nat}(h:BoxT t g W x ab nb cb ak nk ck):g<W.heap.size:=(Array.getElem?_eq_some_iff.1 h.heap).1
theorem BoxT.cells {t g:Nat}{W:World}{x:It}{ab:Option Addr}{nb cb:Nat}{ak:Option Addr}{nk ck:Nat}(h:BoxT t g W x ab nb cb ak nk ck) :
  W.cell? ⟨g,0,none⟩=some (.int .i64 x.cls)∧W.cell? ⟨g,1,none⟩=some (.int .i64 x.tag)∧W.cell? ⟨g,2,none⟩=some (.bool x.cons)∧W.cell? ⟨g,3,none⟩=some (.slice ab nb cb)∧W.cell? ⟨g,4,none⟩=some (.slice ak nk ck) :=
 ⟨(cell_of_row _ g 0 _ t (0,0) h.heap).trans rfl,(cell_of_row _ g 1 _ t (0,0) h.heap).trans rfl,(cell_of_row _ g 2 _ t (0,0) h.heap).trans rfl,(cell_of_row _ g 3 _ t (0,0) h.heap).trans rfl,(cell_of_row _ g 4 _ t (0,0) h.heap).trans rfl⟩
theorem encK_ge (f:It→Option (List Int))(xs:List It):∀ acc l,encK f acc xs=some l→acc.length≤l.length:=by
 induction xs with
 | nil=>intro acc l e; simp [encK] at e; subst e; exact Nat.le_refl _
 | cons x xs ih =>
  intro acc l e
  simp only [encK] at e
  split at e
  ·cases e
  ·split at e
   ·have:=ih _ _ e
    rw [List.length_append] at this
    omega
   ·cases e
theorem encK_step (f:It→Option (List Int))(xs:List It)(k:Nat)(h:k<xs.length)(acc l:List Int)(e:encK f acc (xs.drop k)=some l):∃ p,f (xs.getD k default)=some p∧acc.length+p.length≤20000∧encK f (acc++p) (xs.drop (k+1))=some l:=by
 rw [drop_get xs k h] at e
 simp only [encK] at e
 split at e
 ·cases e
 ·rename_i p hp
  split at e
  ·exact ⟨p,hp,by assumption,e⟩
  ·cases e
theorem enc_parts (r:Nat)(x:It)(l:List Int)(h:enc (r+1) x=some l):x.shape=true∧∃ inner,inX r x=some inner∧l=headL x inner.length++inner∧l.length≤20000:=by
 have hl:=enc_len _ _ _ h
 cases hs:x.shape with
 | false=>rw [enc_shape r x hs] at h; cases h
 | true =>
  refine ⟨rfl,?_⟩
  cases hi:inX r x with
  | none=>rw [enc_inX_none r x hs hi] at h; cases h
  | some inner =>
   refine ⟨inner,rfl,?_,hl⟩
   by_cases hlong:(headL x inner.length++inner).length≤20000
   ·rw [enc_inX_some r x inner hs hi hlong] at h
    exact (Option.some.inj h).symm
   ·rw [enc_inX_long r x inner hs hi hlong] at h; cases h
theorem own_zero (B:Nat)(w:World)(g:Nat)(hg:w.heap.size=g)(h:B≤w.heap.size):Own B (w.alloc (.cells #[] 5)) (some ⟨g,0,none⟩) 0 0 []:=by
 subst hg
 exact ⟨World.ownsRow_lit w #[] 0 h (by decide) rfl,by simp⟩
def SpecBytes (d:Nat):Prop:=∀ (r:Nat) (x:It) (l:List Int) (ab:Option Addr) (nb cb:Nat) (ak:Option Addr) (nk ck:Nat) (w:World),enc r x=some l→Row w ab nb x.body→(ab=none→cb=0)→Kids d w ak nk x.kids →
  Calls Tryz.prog 36 #[itv x ab nb cb ak nk ck] w fun e w'=>∃ a cap,e=.returned (.slice a l.length cap)∧Own w.heap.size w' a l.length cap l∧Below w.heap.size w w'
theorem specBytes_next (d:Nat)(ih:SpecBytes d):SpecBytes (d+1):=by
 intro r x l ab nb cb ak nk ck w henc hrow hnil hk
 obtain ⟨i0,hi,hz0,hz1,hz2⟩:=info_parts Tryz.info5
 cases r with
 | zero=>simp [enc] at henc
 | succ r =>
  obtain ⟨hsh,inner,hin,hl,hl2⟩:=enc_parts r x l henc
  have hge:=encK_ge _ _ _ _ hin
  have hil:inner.length≤20000:=by rw [hl,List.length_append] at hl2; omega
  have hnb:nb≤20000:=by rw [hrow.len] at hge; omega
  have HR:Hid (Row w ab nb x.body):=hrow
  have HK:Hid (Kids (d+1) w ak nk x.kids):=hk
  have HL:Hid (x.kids.length=nk):=hk.1
  have hnk:=hk.2.1
  have HI:Hid (encK (enc r) x.body (x.kids.drop 0)=some inner):=by show _=_; rw [List.drop_zero]; exact hin
  have HLL:Hid (l=headL x inner.length++inner):=hl
  have hsb:=shape_bounds hsh
  have hbl:Below w.heap.size w (w.alloc (.cells #[.int .i64 x.cls,.int .i64 x.tag,.bool x.cons,.slice ab nb cb,.slice ak nk ck] 75)):=(Below.refl _ _).alloc (Nat.le_refl _) _
  have hB1:Below w.heap.size w ((w.alloc (.cells #[.int .i64 x.cls,.int .i64 x.tag,.bool x.cons,.slice ab nb cb,.slice ak nk ck] 75)).alloc (.cells #[] 5)):=hbl.alloc hbl.size _
  have HO:Hid (Own (w.heap.size+1) ((w.alloc (.cells #[.int .i64 x.cls,.int .i64 x.tag,.bool x.cons,.slice ab nb cb,.slice ak nk ck] 75)).alloc (.cells #[] 5)) (some ⟨w.heap.size+1,0,none⟩) 0 0 []):=own_zero _ _ _ (by simp) (by simp)
  have BX0:Hid (_):=boxT_new 75 w x ab nb cb ak nk ck
  clear hrow hk hin hl henc hge
  unfold itv
  go_enter Tryz.func36,Tryz.ntmps36
  go_wp2_with (at_builtin; refine wpList_append_row _ rfl (.tmp 5) (.tmp 7) 32 rfl (w.heap.size+1) i0 Tryz.underlying32 hi hz0 hz1 hz2 _ _ _ rfl HO.out.row ab nb cb x.body rfl (HR.out.kept hB1) hnil (by omega) (by simp) ?_; intro v1 w1 hv1 hg1; obtain ⟨a1,c1,rfl,ho1⟩:=own_appended (xs:=[]) (ys:=x.body) hv1 HO.out.byte HR.out.byte; have hb1:Below w.heap.size w w1:=below_appended hB1 hB1.size (HO.out.mono (by omega)).row hg1; have hx1:BoxT 75 w.heap.size w1 x ab nb cb ak nk ck:=⟨(hg1.block w.heap.size (by simp; omega) (by show some w.heap.size≠some (w.heap.size+1); simp)).trans ((alloc_old _ _ _ (by simp)).trans BX0.out.heap)⟩)
  have ho1':Own (w.heap.size+1) w1 a1 nb c1 x.body:=by simpa using ho1
  go_loopw [3,4] (fun o i wr=>∃ (k m c:Nat) (ao:Option Addr) (acc:List Int),k≤nk∧i=.int .i64 k∧o=.slice ao m c∧Own (w.heap.size+1) wr ao m c acc∧m≤20000∧Hid (encK (enc r) acc (x.kids.drop k)=some inner)∧BoxT 75 w.heap.size wr x ab nb cb ak nk ck∧Below w.heap.size w wr) (fun _ i _=>nk - (intOf i).toNat)
  case atStart=>exact ⟨0,nb,c1,a1,x.body,Nat.zero_le _,rfl,rfl,ho1',hnb,HI,hx1,hb1⟩
  case round =>
   obtain ⟨k,m,c,ao,acc,hk,rfl,rfl,hor,hm,hE,hbx,hbr⟩:=hrel
   obtain ⟨x0,x1,x2,x3,x4⟩:=hbx.cells
   have BX:Hid (BoxT 75 w.heap.size wr x ab nb cb ak nk ck):=hbx
   clear hbx
   have hs:=hbr.size
   by_cases hkn:k<nk
   ·obtain ⟨b,off,rfl,hlb,ab1,nb1,cb1,ak1,nk1,ck1,c0,c1',c2,c3,c4,hr1,hn1,hm1,hk1⟩:=HK.out.2.2 k hkn
    obtain ⟨p,hp,hpl,hpn⟩:=encK_step _ _ _ (by rw [HL.out]; exact hkn) _ _ hE.out
    obtain ⟨y,hy⟩:∃ y,y=x.kids.getD k default:=⟨_,rfl⟩
    rw [← hy] at c0 c1' c2 hr1 hk1 hp
    have cc:∀ j,wr.cell? ⟨b,j,none⟩=w.cell? ⟨b,j,none⟩:=fun j=>hbr.cell (p:=⟨b,j,none⟩) hlb
    rw [← cc] at c0 c1' c2 c3 c4
    have hkni:(k:Int)<(nk:Int):=by omega
    have hla:=hor.length
    rw [hla] at hpl
    have R1:Hid (_):=hr1.kept hbr
    have K1:Hid (_):=hk1.kept hbr
    have HP:Hid (enc r y=some p):=hp
    have HPN:Hid (encK (enc r) (acc++p) (x.kids.drop (k+1))=some inner):=hpn
    clear cc hy hr1 hk1 hp hpn hla
    go_wp2_with fail
    refine (ih r y p ab1 nb1 cb1 ak1 nk1 ck1 _ HP.out R1.out hn1 K1.out).mono ?_
    rintro e w2 ⟨a2,c2',rfl,ho2,hb2⟩
    have hb2':Below w.heap.size w w2:=hbr.trans (hb2.mono hs)
    have hor2:=hor.kept hb2
    have ho2':=ho2.mono hs
    obtain ⟨q,hq⟩:∃ q,q=p.length:=⟨_,rfl⟩
    rw [← hq] at ho2 ho2' hpl ⊢
    have BX2:Hid (_):=BX.out.kept hb2
    clear hq
    go_wp2_with (at_builtin; refine wpList_append_row _ rfl (.tmp 16) (.tmp 22) 32 rfl (w.heap.size+1) i0 Tryz.underlying32 hi hz0 hz1 hz2 _ _ _ rfl hor2.row a2 q c2' p rfl ho2.toRow ho2.nil (by omega) (by have:=BX.out.lt; have:=hb2.size; omega) ?_; intro v3 w3 hv3 hg3)
    obtain ⟨a3,c3',rfl,ho3⟩:=own_appended (xs:=acc) (ys:=p) hv3 hor2.byte ho2.byte
    have hb3:Below w.heap.size w w3:=below_appended hb2' hb2'.size (hor2.mono (by omega)).row hg3
    have hlt2:=BX2.out.lt
    have hx3:BoxT 75 w.heap.size w3 x ab nb cb (some ⟨b,off,none⟩) nk ck:=⟨(hg3.block w.heap.size hlt2 (fun e=>by have:=(hor2.row.lt _ e.symm).1; omega)).trans BX2.out.heap⟩
    have FIN:Hid (_∧_):=⟨ho3,hx3⟩
    clear ho3 hx3 hv3 hg3
    go_wp2
    go_roundw
    case rel=>exact ⟨k+1,m+q,c3',a3,acc++p,by omega,by go_num,rfl,FIN.out.1,hpl,HPN,FIN.out.2,hb3⟩
    case measure=>simp [intOf]; omega
   ·obtain rfl:nk=k:=by omega
    have hacc:Hid (acc=inner):=by
     show _=_
     have:=hE.out
     rw [encK_end _ _ _ (by rw [HL.out]; exact Nat.le_refl _)] at this
     exact Option.some.inj this
    go_wp2_with fail
    refine (l2Head_any x ab nb cb ak nk ck m _ hsb.1 hsb.2 (by omega)).mono ?_
    rintro e w3 ⟨a3,c3,rfl,ho3,hb3⟩
    have hb3':Below w.heap.size w w3:=hbr.trans (hb3.mono hs)
    have hor3:=hor.kept hb3
    have hla:=hor.length
    have hh:=headL_len x m hsb.2
    have HLL2:Hid (l=headL x m++acc):=by show _=_; rw [HLL.out,← hacc.out,hla]
    obtain ⟨hd,hhd⟩:∃ hd,hd=headL x m:=⟨_,rfl⟩
    rw [← hhd] at ho3 hh HLL2 ⊢
    obtain ⟨nh,hnh⟩:∃ nh,nh=hd.length:=⟨_,rfl⟩
    rw [← hnh] at ho3 hh ⊢
    have HN:Hid (l.length=nh+m):=by show _=_; rw [HLL2.out,List.length_append,hla,← hnh]
    have ho3':=ho3.mono hs
    clear hhd hnh hla
    go_wp2_with (at_builtin; refine wpList_append_row _ rfl (.tmp 27) (.tmp 28) 32 rfl w.heap.size i0 Tryz.underlying32 hi hz0 hz1 hz2 _ _ _ rfl ho3'.row ao m c acc rfl hor3.toRow hor3.nil (by omega) hb3'.size ?_; intro v5 w5 hv5 hg5; obtain ⟨a5,c5,rfl,ho5⟩:=own_appended (xs:=hd) (ys:=acc) hv5 ho3'.byte hor3.byte; have hb5:Below w.heap.size w w5:=below_appended hb3' hb3'.size ho3'.row hg5)
    go_ret
    exact ⟨a5,c5,by rw [HN.out]; rfl,by rw [HN.out,HLL2.out]; exact ho5,hb5⟩
theorem specBytes_all (d:Nat):SpecBytes d:=by
 induction d with
 | zero=>intro r x l ab nb cb ak nk ck w _ _ _ h; exact h.elim
 | succ d ih=>exact specBytes_next d ih
open Go.RowKit
theorem results_it {fn:Func}{t:Tmp}(h:fn.results=#[.cell t 75])(tmps:Array Value)(g:Nat)(ht:tmps.getD t undef=.pointer (some ⟨g,0,none⟩))(w:World)(c0 c1 c2 c3 c4:Value)
  (hb:w.heap[g]? = some (.cells #[c0,c1,c2,c3,c4] 75 (0,0))):(results fn tmps).run Tryz.prog w=.ok (.agg #[c0,c1,c2,c3,c4]) w:=by
 have d0:w.cell? ⟨g,0,none⟩=some c0:=(cell_of_row _ g 0 _ 75 (0,0) hb).trans rfl
 have d1:w.cell? ⟨g,1,none⟩=some c1:=(cell_of_row _ g 1 _ 75 (0,0) hb).trans rfl
 have d2:w.cell? ⟨g,2,none⟩=some c2:=(cell_of_row _ g 2 _ 75 (0,0) hb).trans rfl
 have d3:w.cell? ⟨g,3,none⟩=some c3:=(cell_of_row _ g 3 _ 75 (0,0) hb).trans rfl
 have d4:w.cell? ⟨g,4,none⟩=some c4:=(cell_of_row _ g 4 _ 75 (0,0) hb).trans rfl
 clear hb
 have ht':tmps[t]?.getD undef=.pointer (some ⟨g,0,none⟩):=by rw [← ht]; simp
 simp [results,h,go_sem,ht',d0,d1,d2,d3,d4]
def put5I (w:World)(g:Nat)(u0 u1 u2 u3 u4:Value):World:=((((w.setCell ⟨g,0,none⟩ u0).setCell ⟨g,1,none⟩ u1).setCell ⟨g,2,none⟩ u2).setCell ⟨g,3,none⟩ u3).setCell ⟨g,4,none⟩ u4
theorem put5_heap {w:World}{g t:Nat}{c0 c1 c2 c3 c4:Value}(h:w.heap[g]? = some (.cells #[c0,c1,c2,c3,c4] t (0,0)))(u0 u1 u2 u3 u4:Value):(put5I w g u0 u1 u2 u3 u4).heap[g]? = some (.cells #[u0,u1,u2,u3,u4] t (0,0)) :=
 heap_setCell_same _ _ 4 _ t _ (heap_setCell_same _ _ 3 _ t _ (heap_setCell_same _ _ 2 _ t _ (heap_setCell_same _ _ 1 _ t _ (heap_setCell_same _ _ 0 _ t _ h))))
theorem touch_set {p q:Nat}(w:World)(g j:Nat)(u:Value)(h1:p≤g)(h2:g<q):Touch p q w (w.setCell ⟨g,j,none⟩ u) :=
 ⟨rfl,rfl,rfl,by simp,fun k _ hk=>heap_setCell_other w ⟨g,j,none⟩ k u (by simp; omega)⟩
theorem touch_set1 (w:World)(g j:Nat)(u:Value):Touch g (g+1) w (w.setCell ⟨g,j,none⟩ u):=touch_set w g j u (Nat.le_refl _) (Nat.lt_succ_self _)
theorem put5_touch (w:World)(g:Nat)(u0 u1 u2 u3 u4:Value):Touch g (g+1) w (put5I w g u0 u1 u2 u3 u4) :=
 ((((touch_set1 w g 0 u0).trans (touch_set1 _ g 1 u1)).trans (touch_set1 _ g 2 u2)).trans (touch_set1 _ g 3 u3)).trans (touch_set1 _ g 4 u4)
structure Box5 (w:World)(g:Nat):Prop where
 b:w.heap[g]? = some (.cells #[.int .i64 0,.int .i64 0,.bool false,.slice none 0 0,.slice none 0 0] 75 (0,0))
 c0:w.cell? ⟨g,0,none⟩=some (.int .i64 0)
 c1:w.cell? ⟨g,1,none⟩=some (.int .i64 0)
 c2:w.cell? ⟨g,2,none⟩=some (.bool false)
 c3:w.cell? ⟨g,3,none⟩=some (.slice none 0 0)
 c4:w.cell? ⟨g,4,none⟩=some (.slice none 0 0)
 f0:w.frozen? ⟨g,0,none⟩=false
 f1:w.frozen? ⟨g,1,none⟩=false
 f2:w.frozen? ⟨g,2,none⟩=false
 f3:w.frozen? ⟨g,3,none⟩=false
 f4:w.frozen? ⟨g,4,none⟩=false
theorem Box5.of {w:World}{g:Nat}(h:w.heap[g]? = some (.cells #[.int .i64 0,.int .i64 0,.bool false,.slice none 0 0,.slice none 0 0] 75 (0,0))):Box5 w g :=
 ⟨h,(cell_of_row _ g 0 _ 75 (0,0) h).trans rfl,(cell_of_row _ g 1 _ 75 (0,0) h).trans rfl,(cell_of_row _ g 2 _ 75 (0,0) h).trans rfl,(cell_of_row _ g 3 _ 75 (0,0) h).trans rfl,(cell_of_row _ g 4 _ 75 (0,0) h).trans rfl,
  frozen_of_row w g 0 _ 75 h,frozen_of_row w g 1 _ 75 h,frozen_of_row w g 2 _ 75 h,frozen_of_row w g 3 _ 75 h,frozen_of_row w g 4 _ 75 h⟩
def box5 (w:World):World:=w.alloc (.cells #[.int .i64 0,.int .i64 0,.bool false,.slice none 0 0,.slice none 0 0] 75)
theorem box5_new (w:World):(box5 w).heap[w.heap.size]? = some (.cells #[.int .i64 0,.int .i64 0,.bool false,.slice none 0 0,.slice none 0 0] 75 (0,0)):=heap_alloc_new w _
theorem box5_below (w:World):Below w.heap.size w (box5 w):=(Below.refl _ _).alloc (Nat.le_refl _) _
theorem box5_size (w:World):(box5 w).heap.size=w.heap.size+1:=by unfold box5; simp
def numI (n:Int):It:=.mk 0 2 false (wbL n) []
def bytI (bs:List Int):It:=.mk 0 4 false bs []
def boxI (tag:Int)(ks:List It):It:=.mk 1 tag true [] ks
theorem ownItem_any (tag:Int)(a:Option Addr)(n c:Nat)(ks:List It)(w:World) :
  Calls Tryz.prog 59 #[.int .i64 tag,.slice a n c] w fun e w'=>e=.returned (itv (boxI tag ks) none 0 0 a n c)∧Below w.heap.size w w':=by
 go_enter Tryz.func59,Tryz.ntmps59
 go_wp2_with fail
 try simp only [Exit.inBlock,Exit.then]
 exact bodyPost_ret (results_it rfl _ w.heap.size rfl _ _ _ _ _ _ (heap_alloc_new w _)) rfl ⟨rfl,(Below.refl _ _).alloc (Nat.le_refl _) _⟩
theorem bytesItem_any (a:Option Addr)(n c:Nat)(bs:List Int)(w:World) :
  Calls Tryz.prog 60 #[.slice a n c] w fun e w'=>e=.returned (itv (bytI bs) a n c none 0 0)∧Below w.heap.size w w':=by
 go_enter Tryz.func60,Tryz.ntmps60
 go_wp2_with fail
 try simp only [Exit.inBlock,Exit.then]
 exact bodyPost_ret (results_it rfl _ w.heap.size rfl _ _ _ _ _ _ (heap_alloc_new w _)) rfl ⟨rfl,(Below.refl _ _).alloc (Nat.le_refl _) _⟩
theorem in_at {g k n lo hi:Nat}(h1:lo≤g)(h2:g<hi):In (some ⟨g,k,none⟩) n lo hi:=by
 intro b off ha _
 simp at ha
 omega
theorem Row.blk {w:World}{g k n:Nat}{bs:List Int}(h:Row w (some ⟨g,k,none⟩) n bs)(hn:0<n):g<w.heap.size:=by
 obtain ⟨b,off,ha,hb,_⟩:=h.get 0 hn
 simp at ha
 omega
theorem numberItem_any (n:Int)(w:World)(h0 : -9223372036854775808≤n)(h1:n≤9223372036854775807) :
  Calls Tryz.prog 101 #[.int .i64 n] w fun e w'=>∃ g k,e=.returned (itv (numI n) (some ⟨g,k,none⟩) (wsz n) (wsz n) none 0 0)∧w.heap.size≤g∧Row w' (some ⟨g,k,none⟩) (wsz n) (wbL n)∧Below w.heap.size w w':=by
 have hsz:=wsz_bd n
 go_enter Tryz.func101,Tryz.ntmps101
 go_wp2_with fail
 have hbx:=box5_below w
 have hnx:=box5_new w
 have hsx:=box5_size w
 obtain ⟨wb,hwb⟩:∃ wb,wb=box5 w:=⟨_,rfl⟩
 rw [← hwb] at hbx hnx hsx
 unfold box5 at hwb
 rw [← hwb]
 clear hwb
 refine (wholeBytes_any n _ h0 h1).mono ?_
 rintro e w1 ⟨g,k,rfl,hg,hr,hb1⟩
 have hn1:=(hb1.block _ (by omega)).trans hnx
 have B1:Below w.heap.size w w1:=hbx.trans (hb1.mono hbx.size)
 obtain ⟨_,x0,x1,x2,x3,x4,y0,y1,y2,y3,y4⟩:=Box5.of hn1
 have HR:Hid (Row w1 (some ⟨g,k,none⟩) (wsz n) (wbL n)):=hr
 have HN:Hid (_):=hn1
 have HB:Hid (Below w.heap.size w w1):=B1
 have hgl:=hr.blk (by omega)
 have hs1:=hb1.size
 clear hr hn1 B1 hb1 hnx hbx
 go_wp2_with fail
 try simp only [Exit.inBlock,Exit.then]
 refine bodyPost_ret (results_it rfl _ w.heap.size rfl _ _ _ _ _ _ (put5_heap HN.out _ _ _ _ _)) rfl ⟨g,k,rfl,by omega,?_,?_⟩
 ·exact HR.out.touch (in_at (lo:=g) (hi:=g+1) (Nat.le_refl _) (by omega)) (.inr (by omega)) (put5_touch w1 w.heap.size _ _ _ _ _)
 ·exact HB.out.trans ((put5_touch w1 w.heap.size _ _ _ _ _).below (Nat.le_refl _) (by omega))
theorem digestBytes_in (v:Int)(w:World)(h0:0≤v)(h1:v≤18446744073709551615) :
  Calls Tryz.prog 183 #[.int .u64 v] w fun e w'=>∃ g,e=.returned (.slice (some ⟨g,0,none⟩) 8 8)∧w.heap.size≤g∧Row w' (some ⟨g,0,none⟩) 8 (eightI v)∧Below w.heap.size w w':=by
 obtain ⟨n,rfl⟩:=Int.eq_ofNat_of_zero_le h0
 go_enter Tryz.func183,Tryz.ntmps183
 go_wp2_with fail
 refine (eight_any n _ h1).mono ?_
 rintro e w1 ⟨x0,x1,x2,x3,x4,x5,x6,x7,rfl,hx,hb1⟩
 have HX:Hid (_=_):=hx
 have HB1:Hid (_):=hb1
 clear hx hb1
 go_wp2
 go_ret
 refine ⟨w1.heap.size,rfl,HB1.out.size,⟨eightI_len _,fun k hk=>⟨w1.heap.size,0,rfl,by simp,?_⟩,eightI_byte _⟩,HB1.out.alloc HB1.out.size _⟩
 rw [Nat.zero_add,cell_of_row _ w1.heap.size k _ 151 _ (heap_alloc_new w1 _)]
 have e:eightI (n:Int) = [x0,x1,x2,x3,x4,x5,x6,x7]:=by rw [HX.out]; rfl
 rw [e]
 match k,hk with
 | 0,_ | 1,_ | 2,_ | 3,_ | 4,_ | 5,_ | 6,_ | 7,_=>rfl
theorem digestItem_any (v:Int)(w:World)(h0:0≤v)(h1:v≤18446744073709551615) :
  Calls Tryz.prog 155 #[.int .u64 v] w fun e w'=>∃ g,e=.returned (itv (bytI (eightI v)) (some ⟨g,0,none⟩) 8 8 none 0 0)∧w.heap.size≤g∧Row w' (some ⟨g,0,none⟩) 8 (eightI v)∧Below w.heap.size w w':=by
 go_enter Tryz.func155,Tryz.ntmps155
 go_wp2_with fail
 have hbx:=box5_below w
 have hnx:=box5_new w
 have hsx:=box5_size w
 obtain ⟨wb,hwb⟩:∃ wb,wb=box5 w:=⟨_,rfl⟩
 rw [← hwb] at hbx hnx hsx
 unfold box5 at hwb
 rw [← hwb]
 clear hwb
 refine (digestBytes_in v _ h0 h1).mono ?_
 rintro e w1 ⟨g,rfl,hg,hr,hb1⟩
 have hs1:=hb1.size
 go_wp2_with fail
 refine (bytesItem_any (some ⟨g,0,none⟩) 8 8 (eightI v) _).mono ?_
 rintro e w2 ⟨rfl,hb2⟩
 have hs2:=hb2.size
 have hn1:=(hb2.block _ (by omega)).trans ((hb1.block _ (by omega)).trans hnx)
 have B1:Below w.heap.size w w2:=(hbx.trans (hb1.mono hbx.size)).trans (hb2.mono (by omega))
 obtain ⟨_,x0,x1,x2,x3,x4,y0,y1,y2,y3,y4⟩:=Box5.of hn1
 have HR:Hid (Row w2 (some ⟨g,0,none⟩) 8 (eightI v)):=hr.kept hb2
 have HN:Hid (_):=hn1
 have HB:Hid (Below w.heap.size w w2):=B1
 have hgl:=hr.blk (by omega)
 clear hr hn1 B1 hb1 hb2 hnx hbx
 unfold itv bytI
 simp only [It.cls,It.tag,It.cons]
 go_wp2_with fail
 try simp only [Exit.inBlock,Exit.then]
 refine bodyPost_ret (results_it rfl _ w.heap.size rfl _ _ _ _ _ _ (put5_heap HN.out _ _ _ _ _)) rfl ⟨g,rfl,by omega,?_,?_⟩
 ·exact HR.out.touch (in_at (lo:=g) (hi:=g+1) (Nat.le_refl _) (by omega)) (.inr (by omega)) (put5_touch w2 w.heap.size _ _ _ _ _)
 ·exact HB.out.trans ((put5_touch w2 w.heap.size _ _ _ _ _).below (Nat.le_refl _) (by omega))
theorem Own.touch5 {B lo hi:Nat}{w w':World}{a:Option Addr}{n cap:Nat}{bs:List Int}(h:Own B w a n cap bs)(ht:Touch lo hi w w')(hd:hi≤B):Own B w' a n cap bs:=by
 refine ⟨⟨h.row.1,?_⟩,h.byte⟩
 rcases h.row.2 with hn' | ⟨g,cap',cur,hv,hbb,hgg,rest⟩
 ·exact .inl hn'
 ·exact .inr ⟨g,cap',cur,hv,hbb,(ht.block g (Array.getElem?_eq_some_iff.1 hgg).1 (by omega)).trans hgg,rest⟩
theorem l2Leaf_any (tag:Int)(a:Option Addr)(n c:Nat)(bs:List Int)(w:World)(h:Row w a n bs)(hc:a=none→c=0)(hn:n≤1000) :
  Calls Tryz.prog 136 #[.int .i64 0,.int .i64 tag,.slice a n c] w fun e w'=>∃ a' c',e=.returned (itv (.mk 0 tag false bs []) a' n c' none 0 0)∧Own (w.heap.size+1) w' a' n c' bs∧Below w.heap.size w w':=by
 obtain ⟨i0,hi,hz0,hz1,hz2⟩:=info_parts Tryz.info5
 have hbx:=box5_below w
 have hnx:=box5_new w
 have hsx:=box5_size w
 have hal:Below (box5 w).heap.size (box5 w) ((box5 w).alloc (.cells #[] 5)):=(Below.refl _ _).alloc (Nat.le_refl _) _
 have hor0:Own (w.heap.size+1) ((box5 w).alloc (.cells #[] 5)) (some ⟨w.heap.size+1,0,none⟩) 0 0 []:=own_zero _ _ _ (by rw [hsx]) (by rw [hsx]; exact Nat.le_refl _)
 have hB1:Below w.heap.size w ((box5 w).alloc (.cells #[] 5)):=hbx.trans (hal.mono hbx.size)
 have hn1:=(hal.block _ (by omega)).trans hnx
 have HR:Hid (Row ((box5 w).alloc (.cells #[] 5)) a n bs):=h.kept (hB1.mono (Nat.le_refl _))
 have HN:Hid (_):=hn1
 have hsz1:((box5 w).alloc (.cells #[] 5)).heap.size=w.heap.size+2:=by simp [hsx]
 have HO:Hid (_):=hor0
 have HB1:Hid (_):=hB1
 clear h hal hbx hnx hn1 hor0 hB1
 unfold box5 at HR HN HO HB1 hsz1 hsx
 go_enter Tryz.func136,Tryz.ntmps136
 go_wp2_with (at_builtin; refine wpList_append_row _ rfl (.tmp 9) (.tmp 10) 32 rfl (w.heap.size+1) i0 Tryz.underlying32 hi hz0 hz1 hz2 _ _ _ rfl HO.out.row a n c bs rfl HR.out hc (by omega) (by rw [hsz1]; omega) ?_; intro v1 w1 hv1 hg1; obtain ⟨a1,c1,rfl,ho1⟩:=own_appended (xs:=[]) (ys:=bs) hv1 HO.out.byte HR.out.byte; have hb1:Below w.heap.size w w1:=below_appended HB1.out HB1.out.size (HO.out.mono (by omega)).row hg1; have ho1':Own (w.heap.size+1) w1 a1 n c1 bs:=(by simpa using ho1); have hn2:w1.heap[w.heap.size]? = some (.cells #[.int .i64 0,.int .i64 0,.bool false,.slice none 0 0,.slice none 0 0] 75 (0,0)):=(hg1.block w.heap.size (by rw [hsz1]; omega) (by show some w.heap.size≠some (w.heap.size+1); simp)).trans HN.out; obtain ⟨_,x0,x1,x2,x3,x4,y0,y1,y2,y3,y4⟩:=Box5.of hn2; have HN2:Hid (_):=hn2; have HB2:Hid (Below w.heap.size w w1):=hb1; have HO2:Hid (Own (w.heap.size+1) w1 a1 n c1 bs):=ho1'; have hs1:=hg1.size; clear hn2 hb1 ho1 ho1' hv1 hg1)
 try simp only [Exit.inBlock,Exit.then]
 refine bodyPost_ret (results_it rfl _ w.heap.size rfl _ _ _ _ _ _ (put5_heap HN2.out _ _ _ _ _)) rfl ⟨a1,c1,by first | rfl | simp [itv,It.cls,It.tag,It.cons],?_,?_⟩
 ·exact HO2.out.touch5 (put5_touch w1 w.heap.size _ _ _ _ _) (by omega)
 ·exact HB2.out.trans ((put5_touch w1 w.heap.size _ _ _ _ _).below (Nat.le_refl _) HB2.out.size)
theorem l9Bytes_any (a:Option Addr)(n c:Nat)(bs:List Int)(w:World)(h:Row w a n bs)(hc:a=none→c=0)(hn:n≤1000) :
  Calls Tryz.prog 83 #[.slice a n c] w fun e w'=>∃ a c,e=.returned (itv (bytI bs) a n c none 0 0)∧Own (w.heap.size+1) w' a n c bs∧Below w.heap.size w w':=by
 have hbx:=box5_below w
 have hnx:=box5_new w
 have hsx:=box5_size w
 obtain ⟨wb,hwb⟩:∃ wb,wb=box5 w:=⟨_,rfl⟩
 rw [← hwb] at hbx hnx hsx
 unfold box5 at hwb
 go_enter Tryz.func83,Tryz.ntmps83
 go_wp2_with fail
 rw [← hwb]
 clear hwb
 have hnx1:=hnx
 have B1:=hbx
 refine (l2Leaf_any 4 a n c bs _ (h.kept hbx) hc hn).mono ?_
 rintro e w2 ⟨a2,c2,rfl,ho2,hb2⟩
 have hs2:=hb2.size
 have hn1:=(hb2.block _ (by omega)).trans (hnx1)
 have B2:Below w.heap.size w w2:=B1.trans (hb2.mono (by omega))
 obtain ⟨_,x0,x1,x2,x3,x4,y0,y1,y2,y3,y4⟩:=Box5.of hn1
 have HO:Hid (Own (w.heap.size+1) w2 a2 n c2 bs):=ho2.mono (by omega)
 have HN:Hid (_):=hn1
 have HB:Hid (Below w.heap.size w w2):=B2
 clear ho2 hn1 B2 B1 hb2 hnx hbx hnx1
 unfold itv
 simp only [It.cls,It.tag,It.cons]
 go_wp2_with fail
 try simp only [Exit.inBlock,Exit.then]
 refine bodyPost_ret (results_it rfl _ w.heap.size rfl _ _ _ _ _ _ (put5_heap HN.out _ _ _ _ _)) rfl ⟨a2,c2,rfl,?_,?_⟩
 ·exact HO.out.touch5 (put5_touch w2 w.heap.size _ _ _ _ _) (by omega)
 ·exact HB.out.trans ((put5_touch w2 w.heap.size _ _ _ _ _).below (Nat.le_refl _) HB.out.size)
theorem l9Num_any (n:Int)(w:World) :
  Calls Tryz.prog 81 #[.int .i64 n] w fun e w'=>∃ a c,e=.returned (itv (numI n) a (wsz n) c none 0 0)∧Own (w.heap.size+1) w' a (wsz n) c (wbL n)∧Below w.heap.size w w':=by
 have hbx:=box5_below w
 have hnx:=box5_new w
 have hsx:=box5_size w
 obtain ⟨wb,hwb⟩:∃ wb,wb=box5 w:=⟨_,rfl⟩
 rw [← hwb] at hbx hnx hsx
 unfold box5 at hwb
 go_enter Tryz.func81,Tryz.ntmps81
 go_wp2_with fail
 rw [← hwb]
 clear hwb
 have hsz:=wsz_bd n
 refine (l3Number_any n _).mono ?_
 rintro e w1 ⟨a1,c1,rfl,ho1,hb1⟩
 have hs1:=hb1.size
 have hnx1:=(hb1.block _ (by omega)).trans hnx
 have B1:Below w.heap.size w w1:=hbx.trans (hb1.mono hbx.size)
 go_wp2_with fail
 refine (l2Leaf_any 2 a1 (wsz n) c1 (wbL n) _ ho1.toRow ho1.nil (by omega)).mono ?_
 rintro e w2 ⟨a2,c2,rfl,ho2,hb2⟩
 clear hb1 ho1
 have hs2:=hb2.size
 have hn1:=(hb2.block _ (by omega)).trans (hnx1)
 have B2:Below w.heap.size w w2:=B1.trans (hb2.mono (by omega))
 obtain ⟨_,x0,x1,x2,x3,x4,y0,y1,y2,y3,y4⟩:=Box5.of hn1
 have HO:Hid (Own (w.heap.size+1) w2 a2 (wsz n) c2 (wbL n)):=ho2.mono (by omega)
 have HN:Hid (_):=hn1
 have HB:Hid (Below w.heap.size w w2):=B2
 clear ho2 hn1 B2 B1 hb2 hnx hbx hnx1
 unfold itv
 simp only [It.cls,It.tag,It.cons]
 go_wp2_with fail
 try simp only [Exit.inBlock,Exit.then]
 refine bodyPost_ret (results_it rfl _ w.heap.size rfl _ _ _ _ _ _ (put5_heap HN.out _ _ _ _ _)) rfl ⟨a2,c2,rfl,?_,?_⟩
 ·exact HO.out.touch5 (put5_touch w2 w.heap.size _ _ _ _ _) (by omega)
 ·exact HB.out.trans ((put5_touch w2 w.heap.size _ _ _ _ _).below (Nat.le_refl _) HB.out.size)
open Go.ChangeShapes Go.WideShapes Go.ChangeAt Go.RowKit
def OpensP (y:PT)(cs:List Value):Prop:=cs = [.int .i64 y.attr,.string y.val]∧y.val.size≤9223372036854775807
set_option maxRecDepth 20000 in
theorem open_part {H:Type}{enc:TypeId × Value→H}{W:World}{fuel:Nat}{cs:List Value}{x:DataW H × List MemPlace}(h:DataW.trod enc Tryz.prog W 0 (fun _=>true) true fuel 171 cs=some x):∃ y,OpensP y cs:=by
 obtain ⟨xs,m,rfl,_,hl,hxl,hf⟩:=DataW.trod_struct Tryz.underlying171 h
 have hl2:cs.length=2:=hl.trans (by kernel_rfl)
 have hx2:xs.length=2:=hxl
 obtain ⟨c0,c1,rfl⟩:∃ c0 c1,cs = [c0,c1]:=by
  match cs,hl2 with
  | [c0,c1],_=>exact ⟨c0,c1,rfl⟩
 obtain ⟨x0,x1,rfl⟩:∃ c0 c1,xs = [c0,c1]:=by
  match xs,hx2 with
  | [c0,c1],_=>exact ⟨c0,c1,rfl⟩
 have e1:Tryz.prog.cellsOf 2=1:=by kernel_rfl
 have e2:Tryz.prog.cellsOf 9=1:=by kernel_rfl
 have f0:DataW.trod enc Tryz.prog W 0 (fun _=>true) true m 2 ((([c0,c1]:List Value).drop 0).take (Tryz.prog.cellsOf 2))=some x0:=hf 0 _ rfl
 rw [e1] at f0
 have f1:DataW.trod enc Tryz.prog W 0 (fun _=>true) true m 9 ((([c0,c1]:List Value).drop 1).take (Tryz.prog.cellsOf 9))=some x1:=hf 1 _ rfl
 rw [e2] at f1
 obtain ⟨n0,h0,_,_⟩:=DataW.trod_int Tryz.underlying2 f0
 obtain ⟨s1,h1,_,hs⟩:=DataW.trod_string Tryz.underlying9 f1
 simp at h0 h1
 subst h0 h1
 exact ⟨⟨n0,s1⟩,rfl,by unfold maxLen at hs; show s1.size≤_; omega⟩
set_option maxRecDepth 20000 in
theorem open_parts {H:Type}{enc:TypeId × Value→H}{W:World}{fuel:Nat}{cs:List Value}{x:DataW H × List MemPlace}(h:DataW.trod enc Tryz.prog W 0 (fun _=>true) true fuel 22 cs=some x):∃ a n c xs,cs = [.slice a n c]∧Pts W a n xs:=by
 rcases DataW.trod_slice Tryz.underlying22 h with ⟨rfl,_⟩ | ⟨a,len,cap,elems,rest,n,rfl,rfl,_,_,hl,hm,hlen,hel,_,_⟩
 ·exact ⟨none,0,0,[],rfl,⟨rfl,by decide,fun k hk=>absurd hk (by omega)⟩⟩
 ·have ec:Tryz.prog.cellsOf 171=2:=by kernel_rfl
  rw [ec] at hel
  have each:∀ i,i<len→∃ y:PT,∃ cs',W.cells? 0 (a.add (i * 2)) 2=some cs'∧OpensP y cs':=by
   intro i hi
   have he:=hel i hi
   rw [List.getElem?_eq_getElem (by omega)] at he
   cases hc:W.cells? 0 (a.add (i * 2)) 2 with
   | none=>rw [hc] at he; cases he
   | some cs' =>
    rw [hc] at he
    obtain ⟨y,hy⟩:=open_part he
    exact ⟨y,cs',rfl,hy⟩
  obtain ⟨y,hy⟩:=Go.Deep.choose_lt each
  have hm':len≤9223372036854775807:=by unfold maxLen at hm; omega
  refine ⟨some a,len,cap,(List.range len).map y,rfl,⟨by simp,hm',fun k hk=>?_⟩⟩
  obtain ⟨cs',hcs,rfl,hnk⟩:=hy k hk
  obtain ⟨_,_,hcell⟩:=World.cells?_some hcs
  obtain ⟨b,off,spot⟩:=a
  have hs:spot=none:=by
   obtain ⟨cs0,hcs0,_⟩:=hy 0 (by omega)
   obtain ⟨_,hl0,hcell0⟩:=World.cells?_some hcs0
   have h00:=hcell0 0 (by omega)
   rw [List.getElem?_eq_getElem (by omega)] at h00
   simpa [Addr.add] using World.cell?_spot h00
  subst hs
  have ey:((List.range len).map y).getD k default=y k:=by simp [hk]
  rw [ey]
  have cc:∀ j,j<2→W.cell? ⟨b,off+k * 2+j,none⟩ = [Value.int .i64 (y k).attr,.string (y k).val][j]?:=by
   intro j hj
   have:=hcell j hj
   rw [Addr.add_lit,Addr.add_lit] at this
   exact this
  exact ⟨b,off,rfl,World.block_lt_of_cell? W _ (cc 0 (by omega)),⟨cc 0 (by omega),cc 1 (by omega)⟩,hnk⟩
set_option maxRecDepth 20000 in
theorem open_name {H:Type}{enc:TypeId × Value→H}{W:World}{fuel:Nat}{cs:List Value}{x:DataW H × List MemPlace}(h:DataW.trod enc Tryz.prog W 0 (fun _=>true) true fuel 24 cs=some x):∃ a n c xs,cs = [.slice a n c]∧Pts W a n xs:=by
 obtain ⟨xs,m,rfl,_,hl,hxl,hf⟩:=DataW.trod_struct Tryz.underlying24 h
 have hl2:cs.length=1:=hl.trans (by kernel_rfl)
 have hx2:xs.length=1:=hxl
 obtain ⟨c0,rfl⟩:∃ c0,cs = [c0]:=by
  match cs,hl2 with
  | [c0],_=>exact ⟨c0,rfl⟩
 obtain ⟨x0,rfl⟩:∃ c0,xs = [c0]:=by
  match xs,hx2 with
  | [c0],_=>exact ⟨c0,rfl⟩
 have e1:Tryz.prog.cellsOf 22=1:=by kernel_rfl
 have f0:DataW.trod enc Tryz.prog W 0 (fun _=>true) true m 22 ((([c0]:List Value).drop 0).take (Tryz.prog.cellsOf 22))=some x0:=hf 0 _ rfl
 rw [e1] at f0
 exact open_parts f0
open Go.ChangeShapes Go.WideShapes Go.ChangeAt Go.RowKit
set_option maxRecDepth 20000 in
theorem open_gen {H:Type}{enc:TypeId × Value→H}{W:World}{fuel:Nat}{cs:List Value}{x:DataW H × List MemPlace}(h:DataW.trod enc Tryz.prog W 0 (fun _=>true) true fuel 105 cs=some x) :
  ∃ g:GT,∃ a n c xs,cs = [.int .i64 g.kind,.string g.text,.int .i64 g.addr,.int .i64 g.bits,.slice a n c]∧Pts W a n xs∧g.text.size≤9223372036854775807:=by
 obtain ⟨xs,m,rfl,_,hl,hxl,hf⟩:=DataW.trod_struct Tryz.underlying105 h
 have hl2:cs.length=5:=hl.trans (by kernel_rfl)
 have hx2:xs.length=5:=hxl
 obtain ⟨c0,c1,c2,c3,c4,rfl⟩:∃ c0 c1 c2 c3 c4,cs = [c0,c1,c2,c3,c4]:=by
  match cs,hl2 with
  | [c0,c1,c2,c3,c4],_=>exact ⟨c0,c1,c2,c3,c4,rfl⟩
 obtain ⟨x0,x1,x2,x3,x4,rfl⟩:∃ c0 c1 c2 c3 c4,xs = [c0,c1,c2,c3,c4]:=by
  match xs,hx2 with
  | [c0,c1,c2,c3,c4],_=>exact ⟨c0,c1,c2,c3,c4,rfl⟩
 have e1:Tryz.prog.cellsOf 2=1:=by kernel_rfl
 have e2:Tryz.prog.cellsOf 9=1:=by kernel_rfl
 have e3:Tryz.prog.cellsOf 24=1:=by kernel_rfl
 have f0:DataW.trod enc Tryz.prog W 0 (fun _=>true) true m 2 ((([c0,c1,c2,c3,c4]:List Value).drop 0).take (Tryz.prog.cellsOf 2))=some x0:=hf 0 _ rfl
 have f1:DataW.trod enc Tryz.prog W 0 (fun _=>true) true m 9 ((([c0,c1,c2,c3,c4]:List Value).drop 1).take (Tryz.prog.cellsOf 9))=some x1:=hf 1 _ rfl
 have f2:DataW.trod enc Tryz.prog W 0 (fun _=>true) true m 2 ((([c0,c1,c2,c3,c4]:List Value).drop 2).take (Tryz.prog.cellsOf 2))=some x2:=hf 2 _ rfl
 have f3:DataW.trod enc Tryz.prog W 0 (fun _=>true) true m 2 ((([c0,c1,c2,c3,c4]:List Value).drop 3).take (Tryz.prog.cellsOf 2))=some x3:=hf 3 _ rfl
 have f4:DataW.trod enc Tryz.prog W 0 (fun _=>true) true m 24 ((([c0,c1,c2,c3,c4]:List Value).drop 4).take (Tryz.prog.cellsOf 24))=some x4:=hf 4 _ rfl
 rw [e1] at f0 f2 f3
 rw [e2] at f1
 rw [e3] at f4
 obtain ⟨n0,h0,_,_⟩:=DataW.trod_int Tryz.underlying2 f0
 obtain ⟨s1,h1,_,hs⟩:=DataW.trod_string Tryz.underlying9 f1
 obtain ⟨n2,h2,_,_⟩:=DataW.trod_int Tryz.underlying2 f2
 obtain ⟨n3,h3,_,_⟩:=DataW.trod_int Tryz.underlying2 f3
 obtain ⟨a,n,c,ys,h4,hp⟩:=open_name f4
 simp at h0 h1 h2 h3 h4
 subst h0 h1 h2 h3 h4
 exact ⟨⟨n0,s1,n2,n3⟩,a,n,c,ys,rfl,hp,by unfold maxLen at hs; show s1.size≤_; omega⟩
end Go.Proofs.YtmdfbnlgfhjnoaaGreatDoor
