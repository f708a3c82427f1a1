import Derived.Test.YtkdandggklpppaaGreatDoorFE17
set_option maxRecDepth 10000
set_option maxHeartbeats 8000000
set_option linter.unusedVariables false
namespace Go.Proofs.YtkdandggklpppaaGreatDoor
open Go.RowKit
theorem alloc_old (w:World)(o:Obj)(g:Nat)(hg:g<w.heap.size):(w.alloc o).heap[g]? = w.heap[g]?:=((Below.refl w.heap.size w).alloc (Nat.le_refl _) o).block g hg
structure BoxT (t g:Nat)(W:World)(x:It)(ab:Option Addr)(nb cb:Nat)(ak:Option Addr)(nk ck:Nat):Prop where
 heap:W.heap[g]? = some (.cells #[.int .i64 x.cls,.int .i64 x.tag,.bool x.cons,.slice ab nb cb,.slice ak nk ck] t (0,0))
theorem boxT_new (t:Nat)(w:World)(x:It)(ab:Option Addr)(nb cb:Nat)(ak:Option Addr)(nk ck:Nat):BoxT t w.heap.size (w.alloc (.cells #[.int .i64 x.cls,.int .i64 x.tag,.bool x.cons,.slice ab nb cb,.slice ak nk ck] t)) x ab nb cb ak nk ck:=⟨heap_alloc_new w _⟩
theorem BoxT.kept {t g:Nat}{W W':World}{x:It}{ab:Option Addr}{nb cb:Nat}{ak:Option Addr}{nk ck:Nat}(h:BoxT t g W x ab nb cb ak nk ck)(hb:Below W.heap.size W W'):BoxT t g W' x ab nb cb ak nk ck:=⟨(hb.block _ (Array.getElem?_eq_some_iff.1 h.heap).1).trans h.heap⟩
theorem BoxT.lt {t g:Nat}{W:World}{x:It}{ab:Option Addr}{nb cb:Nat}{ak:Option Addr}{nk ck:Nat}(h:BoxT t g W x ab nb cb ak nk ck):g<W.heap.size:=(Array.getElem?_eq_some_iff.1 h.heap).1
theorem BoxT.cells {t g:Nat}{W:World}{x:It}{ab:Option Addr}{nb cb:Nat}{ak:Option Addr}{nk ck:Nat}(h:BoxT t g W x ab nb cb ak nk ck) :
  W.cell? ⟨g,0,none⟩=some (.int .i64 x.cls)∧W.cell? ⟨g,1,none⟩=some (.int .i64 x.tag)∧W.cell? ⟨g,2,none⟩=some (.bool x.cons)∧W.cell? ⟨g,3,none⟩=some (.slice ab nb cb)∧W.cell? ⟨g,4,none⟩=some (.slice ak nk ck) :=
 ⟨(cell_of_row _ g 0 _ t (0,0) h.heap).trans rfl,(cell_of_row _ g 1 _ t (0,0) h.heap).trans rfl,(cell_of_row _ g 2 _ t (0,0) h.heap).trans rfl,(cell_of_row _ g 3 _ t (0,0) h.heap).trans rfl,(cell_of_row _ g 4 _ t (0,0) h.heap).trans rfl⟩
theorem encK_ge (f:It→Option (List Int))(xs:List It):∀ acc l,encK f acc xs=some l→acc.length≤l.length:=by
 induction xs with
 | nil=>intro acc l e; simp [encK] at e; subst e; exact Nat.le_refl _
 | cons x xs ih =>
  intro acc l e
  simp only [encK] at e
  split at e
  ·cases e
  ·split at e
   ·have:=ih _ _ e
    rw [List.length_append] at this
    omega
   ·cases e
theorem encK_step (f:It→Option (List Int))(xs:List It)(k:Nat)(h:k<xs.length)(acc l:List Int)(e:encK f acc (xs.drop k)=some l):∃ p,f (xs.getD k default)=some p∧acc.length+p.length≤50000∧encK f (acc++p) (xs.drop (k+1))=some l:=by
 rw [drop_get xs k h] at e
 simp only [encK] at e
 split at e
 ·cases e
 ·rename_i p hp
  split at e
  ·exact ⟨p,hp,by assumption,e⟩
  ·cases e
theorem enc_parts (r:Nat)(x:It)(l:List Int)(h:enc (r+1) x=some l):x.shape=true∧∃ inner,inX r x=some inner∧l=headL x inner.length++inner∧l.length≤50000:=by
 have hl:=enc_len _ _ _ h
 cases hs:x.shape with
 | false=>rw [enc_shape r x hs] at h; cases h
 | true =>
  refine ⟨rfl,?_⟩
  cases hi:inX r x with
  | none=>rw [enc_inX_none r x hs hi] at h; cases h
  | some inner =>
   refine ⟨inner,rfl,?_,hl⟩
   by_cases hlong:(headL x inner.length++inner).length≤50000
   ·rw [enc_inX_some r x inner hs hi hlong] at h
    exact (Option.some.inj h).symm
   ·rw [enc_inX_long r x inner hs hi hlong] at h; cases h
theorem own_zero (B:Nat)(w:World)(g:Nat)(hg:w.heap.size=g)(h:B≤w.heap.size):Own B (w.alloc (.cells #[] 5)) (some ⟨g,0,none⟩) 0 0 []:=by
 subst hg
 exact ⟨World.ownsRow_lit w #[] 0 h (by decide) rfl,by simp⟩
def SpecBytes (d:Nat):Prop:=∀ (r:Nat) (x:It) (l:List Int) (ab:Option Addr) (nb cb:Nat) (ak:Option Addr) (nk ck:Nat) (w:World),enc r x=some l→Row w ab nb x.body→(ab=none→cb=0)→Kids d w ak nk x.kids →
  Calls Tryz.prog 39 #[itv x ab nb cb ak nk ck] w fun e w'=>∃ a cap,e=.returned (.slice a l.length cap)∧Own w.heap.size w' a l.length cap l∧Below w.heap.size w w'
theorem specBytes_next (d:Nat)(ih:SpecBytes d):SpecBytes (d+1):=by
 intro r x l ab nb cb ak nk ck w henc hrow hnil hk
 obtain ⟨i0,hi,hz0,hz1,hz2⟩:=info_parts Tryz.info5
 cases r with
 | zero=>simp [enc] at henc
 | succ r =>
  obtain ⟨hsh,inner,hin,hl,hl2⟩:=enc_parts r x l henc
  have hge:=encK_ge _ _ _ _ hin
  have hil:inner.length≤50000:=by rw [hl,List.length_append] at hl2; omega
  have hnb:nb≤50000:=by rw [hrow.len] at hge; omega
  have HR:Hid (Row w ab nb x.body):=hrow
  have HK:Hid (Kids (d+1) w ak nk x.kids):=hk
  have HL:Hid (x.kids.length=nk):=hk.1
  have hnk:=hk.2.1
  have HI:Hid (encK (enc r) x.body (x.kids.drop 0)=some inner):=by show _=_; rw [List.drop_zero]; exact hin
  have HLL:Hid (l=headL x inner.length++inner):=hl
  have hsb:=shape_bounds hsh
  have hbl:Below w.heap.size w (w.alloc (.cells #[.int .i64 x.cls,.int .i64 x.tag,.bool x.cons,.slice ab nb cb,.slice ak nk ck] 81)):=(Below.refl _ _).alloc (Nat.le_refl _) _
  have hB1:Below w.heap.size w ((w.alloc (.cells #[.int .i64 x.cls,.int .i64 x.tag,.bool x.cons,.slice ab nb cb,.slice ak nk ck] 81)).alloc (.cells #[] 5)):=hbl.alloc hbl.size _
  have HO:Hid (Own (w.heap.size+1) ((w.alloc (.cells #[.int .i64 x.cls,.int .i64 x.tag,.bool x.cons,.slice ab nb cb,.slice ak nk ck] 81)).alloc (.cells #[] 5)) (some ⟨w.heap.size+1,0,none⟩) 0 0 []):=own_zero _ _ _ (by simp) (by simp)
  have BX0:Hid (_):=boxT_new 81 w x ab nb cb ak nk ck
  clear hrow hk hin hl henc hge
  unfold itv
  go_enter Tryz.func39,Tryz.ntmps39
  go_wp2_with (at_builtin; refine wpList_append_row _ rfl (.tmp 5) (.tmp 7) 26 rfl (w.heap.size+1) i0 Tryz.underlying26 hi hz0 hz1 hz2 _ _ _ rfl HO.out.row ab nb cb x.body rfl (HR.out.kept hB1) hnil (by omega) (by simp) ?_; intro v1 w1 hv1 hg1; obtain ⟨a1,c1,rfl,ho1⟩:=own_appended (xs:=[]) (ys:=x.body) hv1 HO.out.byte HR.out.byte; have hb1:Below w.heap.size w w1:=below_appended hB1 hB1.size (HO.out.mono (by omega)).row hg1; have hx1:BoxT 81 w.heap.size w1 x ab nb cb ak nk ck:=⟨(hg1.block w.heap.size (by simp; omega) (by show some w.heap.size≠some (w.heap.size+1); simp)).trans ((alloc_old _ _ _ (by simp)).trans BX0.out.heap)⟩)
  have ho1':Own (w.heap.size+1) w1 a1 nb c1 x.body:=by simpa using ho1
  go_loopw [3,4] (fun o i wr=>∃ (k m c:Nat) (ao:Option Addr) (acc:List Int),k≤nk∧i=.int .i64 k∧o=.slice ao m c∧Own (w.heap.size+1) wr ao m c acc∧m≤50000∧Hid (encK (enc r) acc (x.kids.drop k)=some inner)∧BoxT 81 w.heap.size wr x ab nb cb ak nk ck∧Below w.heap.size w wr) (fun _ i _=>nk - (intOf i).toNat)
  case atStart=>exact ⟨0,nb,c1,a1,x.body,Nat.zero_le _,rfl,rfl,ho1',hnb,HI,hx1,hb1⟩
  case round =>
   obtain ⟨k,m,c,ao,acc,hk,rfl,rfl,hor,hm,hE,hbx,hbr⟩:=hrel
   obtain ⟨x0,x1,x2,x3,x4⟩:=hbx.cells
   have BX:Hid (BoxT 81 w.heap.size wr x ab nb cb ak nk ck):=hbx
   clear hbx
   have hs:=hbr.size
   by_cases hkn:k<nk
   ·obtain ⟨b,off,rfl,hlb,ab1,nb1,cb1,ak1,nk1,ck1,c0,c1',c2,c3,c4,hr1,hn1,hm1,hk1⟩:=HK.out.2.2 k hkn
    obtain ⟨p,hp,hpl,hpn⟩:=encK_step _ _ _ (by rw [HL.out]; exact hkn) _ _ hE.out
    obtain ⟨y,hy⟩:∃ y,y=x.kids.getD k default:=⟨_,rfl⟩
    rw [← hy] at c0 c1' c2 hr1 hk1 hp
    have cc:∀ j,wr.cell? ⟨b,j,none⟩=w.cell? ⟨b,j,none⟩:=fun j=>hbr.cell (p:=⟨b,j,none⟩) hlb
    rw [← cc] at c0 c1' c2 c3 c4
    have hkni:(k:Int)<(nk:Int):=by omega
    have hla:=hor.length
    rw [hla] at hpl
    have R1:Hid (_):=hr1.kept hbr
    have K1:Hid (_):=hk1.kept hbr
    have HP:Hid (enc r y=some p):=hp
    have HPN:Hid (encK (enc r) (acc++p) (x.kids.drop (k+1))=some inner):=hpn
    clear cc hy hr1 hk1 hp hpn hla
    go_wp2_with fail
    refine (ih r y p ab1 nb1 cb1 ak1 nk1 ck1 _ HP.out R1.out hn1 K1.out).mono ?_
    rintro e w2 ⟨a2,c2',rfl,ho2,hb2⟩
    have hb2':Below w.heap.size w w2:=hbr.trans (hb2.mono hs)
    have hor2:=hor.kept hb2
    have ho2':=ho2.mono hs
    obtain ⟨q,hq⟩:∃ q,q=p.length:=⟨_,rfl⟩
    rw [← hq] at ho2 ho2' hpl ⊢
    have BX2:Hid (_):=BX.out.kept hb2
    clear hq
    go_wp2_with (at_builtin; refine wpList_append_row _ rfl (.tmp 16) (.tmp 22) 26 rfl (w.heap.size+1) i0 Tryz.underlying26 hi hz0 hz1 hz2 _ _ _ rfl hor2.row a2 q c2' p rfl ho2.toRow ho2.nil (by omega) (by have:=BX.out.lt; have:=hb2.size; omega) ?_; intro v3 w3 hv3 hg3)
    obtain ⟨a3,c3',rfl,ho3⟩:=own_appended (xs:=acc) (ys:=p) hv3 hor2.byte ho2.byte
    have hb3:Below w.heap.size w w3:=below_appended hb2' hb2'.size (hor2.mono (by omega)).row hg3
    have hlt2:=BX2.out.lt
    have hx3:BoxT 81 w.heap.size w3 x ab nb cb (some ⟨b,off,none⟩) nk ck:=⟨(hg3.block w.heap.size hlt2 (fun e=>by have:=(hor2.row.lt _ e.symm).1; omega)).trans BX2.out.heap⟩
    have FIN:Hid (_∧_):=⟨ho3,hx3⟩
    clear ho3 hx3 hv3 hg3
    go_wp2
    go_roundw
    case rel=>exact ⟨k+1,m+q,c3',a3,acc++p,by omega,by go_num,rfl,FIN.out.1,hpl,HPN,FIN.out.2,hb3⟩
    case measure=>simp [intOf]; omega
   ·obtain rfl:nk=k:=by omega
    have hacc:Hid (acc=inner):=by
     show _=_
     have:=hE.out
     rw [encK_end _ _ _ (by rw [HL.out]; exact Nat.le_refl _)] at this
     exact Option.some.inj this
    go_wp2_with fail
    refine (l2Head_any x ab nb cb ak nk ck m _ hsb.1 hsb.2 (by omega)).mono ?_
    rintro e w3 ⟨a3,c3,rfl,ho3,hb3⟩
    have hb3':Below w.heap.size w w3:=hbr.trans (hb3.mono hs)
    have hor3:=hor.kept hb3
    have hla:=hor.length
    have hh:=headL_len x m hsb.2
    have HLL2:Hid (l=headL x m++acc):=by show _=_; rw [HLL.out,← hacc.out,hla]
    obtain ⟨hd,hhd⟩:∃ hd,hd=headL x m:=⟨_,rfl⟩
    rw [← hhd] at ho3 hh HLL2 ⊢
    obtain ⟨nh,hnh⟩:∃ nh,nh=hd.length:=⟨_,rfl⟩
    rw [← hnh] at ho3 hh ⊢
    have HN:Hid (l.length=nh+m):=by show _=_; rw [HLL2.out,List.length_append,hla,← hnh]
    have ho3':=ho3.mono hs
    clear hhd hnh hla
    go_wp2_with (at_builtin; refine wpList_append_row _ rfl (.tmp 27) (.tmp 28) 26 rfl w.heap.size i0 Tryz.underlying26 hi hz0 hz1 hz2 _ _ _ rfl ho3'.row ao m c acc rfl hor3.toRow hor3.nil (by omega) hb3'.size ?_; intro v5 w5 hv5 hg5; obtain ⟨a5,c5,rfl,ho5⟩:=own_appended (xs:=hd) (ys:=acc) hv5 ho3'.byte hor3.byte; have hb5:Below w.heap.size w w5:=below_appended hb3' hb3'.size ho3'.row hg5)
    go_ret
    exact ⟨a5,c5,by rw [HN.out]; rfl,by rw [HN.out,HLL2.out]; exact ho5,hb5⟩
theorem specBytes_all (d:Nat):SpecBytes d:=by
 induction d with
 | zero=>intro r x l ab nb cb ak nk ck w _ _ _ h; exact h.elim
 | succ d ih=>exact specBytes_next d ih
open Go.RowKit
structure RowI (S:Nat→Prop)(w:World)(a:Option Addr)(n:Nat)(bs:List Int):Prop where
 row:Row w a n bs
 lt:∀ x,a=some x→0<n→S x.block
theorem RowI.touch {S P:Nat→Prop}{w w':World}{a:Option Addr}{n:Nat}{bs:List Int}(h:RowI S w a n bs)(hd:∀ k,S k→¬ P k)(ht:TouchX P w w'):RowI S w' a n bs:=by
 refine ⟨⟨h.row.len,fun k hk=>?_,h.row.byte⟩,h.lt⟩
 obtain ⟨b,off,ha,hlt,hc⟩:=h.row.get k hk
 have hb:=ht.block b hlt (hd b (h.lt _ ha (by omega)))
 exact ⟨b,off,ha,Nat.lt_of_lt_of_le hlt ht.size,(World.cell?_of_block (a:=⟨b,off+k,none⟩) hb).trans hc⟩
theorem RowI.mono {S T:Nat→Prop}{w:World}{a:Option Addr}{n:Nat}{bs:List Int}(h:RowI S w a n bs)(hs:∀ k,S k→T k):RowI T w a n bs:=⟨h.row,fun x hx h0=>hs _ (h.lt x hx h0)⟩
theorem Row.toI {w:World}{a:Option Addr}{n:Nat}{bs:List Int}(h:Row w a n bs):RowI (fun b=>b<w.heap.size) w a n bs:=⟨h,fun x hx h0=>by
 obtain ⟨b,off,ha,hlt,_⟩:=h.get 0 h0
 rw [hx] at ha
 have:x=⟨b,off,none⟩:=by injection ha
 rw [this]; exact hlt⟩
theorem Own.toI {B:Nat}{w:World}{a:Option Addr}{n c:Nat}{bs:List Int}(h:Own B w a n c bs):RowI (fun b=>B≤b∧b<w.heap.size) w a n bs:=⟨h.toRow,fun x hx h0=>by
 have:=h.row.lt x.block (by rw [hx]; rfl)
 exact ⟨this.1,this.2⟩⟩
def KidsI:Nat→(Nat→Prop)→World→Option Addr→Nat→List It→Prop
 | 0,_,_,_,_,_=>False
 | d+1,S,w,a,n,xs=>xs.length=n∧n≤9223372036854775807∧∀ k,k<n→∃ b off,a=some ⟨b,off,none⟩∧b<w.heap.size∧S b∧∃ ab nb cb ak nk ck,
   w.cell? ⟨b,off+k * 5,none⟩=some (.int .i64 (xs.getD k default).cls)∧w.cell? ⟨b,off+k * 5+1,none⟩=some (.int .i64 (xs.getD k default).tag)∧w.cell? ⟨b,off+k * 5+2,none⟩=some (.bool (xs.getD k default).cons)
   ∧ w.cell? ⟨b,off+k * 5+3,none⟩=some (.slice ab nb cb)∧w.cell? ⟨b,off+k * 5+4,none⟩=some (.slice ak nk ck)
   ∧ RowI S w ab nb (xs.getD k default).body∧(ab=none→cb=0)∧nb≤9223372036854775807∧KidsI d S w ak nk (xs.getD k default).kids
theorem KidsI.kids {d:Nat}:∀ {S:Nat→Prop} {w:World} {a:Option Addr} {n:Nat} {xs:List It},KidsI d S w a n xs→Kids d w a n xs:=by
 induction d with
 | zero=>intro _ _ _ _ _ h; exact h.elim
 | succ d ih =>
  intro S w a n xs h
  refine ⟨h.1,h.2.1,fun k hk=>?_⟩
  obtain ⟨b,off,ha,hlt,_,ab,nb,cb,ak,nk,ck,c0,c1,c2,c3,c4,hr,hn,hm,hk⟩:=h.2.2 k hk
  exact ⟨b,off,ha,hlt,ab,nb,cb,ak,nk,ck,c0,c1,c2,c3,c4,hr.row,hn,hm,ih hk⟩
theorem KidsI.mono {d:Nat}:∀ {S T:Nat→Prop} {w:World} {a:Option Addr} {n:Nat} {xs:List It},KidsI d S w a n xs→(∀ k,S k→T k)→KidsI d T w a n xs:=by
 induction d with
 | zero=>intro _ _ _ _ _ _ h; exact h.elim
 | succ d ih =>
  intro S T w a n xs h hs
  refine ⟨h.1,h.2.1,fun k hk=>?_⟩
  obtain ⟨b,off,ha,hlt,hS,ab,nb,cb,ak,nk,ck,c0,c1,c2,c3,c4,hr,hn,hm,hk⟩:=h.2.2 k hk
  exact ⟨b,off,ha,hlt,hs b hS,ab,nb,cb,ak,nk,ck,c0,c1,c2,c3,c4,hr.mono hs,hn,hm,ih hk hs⟩
theorem KidsI.more {d:Nat}:∀ {S:Nat→Prop} {w:World} {a:Option Addr} {n:Nat} {xs:List It},KidsI d S w a n xs→KidsI (d+1) S w a n xs:=by
 induction d with
 | zero=>intro _ _ _ _ _ h; exact h.elim
 | succ d ih =>
  intro S w a n xs h
  refine ⟨h.1,h.2.1,fun k hk=>?_⟩
  obtain ⟨b,off,ha,hlt,hS,ab,nb,cb,ak,nk,ck,c0,c1,c2,c3,c4,hr,hn,hm,hk⟩:=h.2.2 k hk
  exact ⟨b,off,ha,hlt,hS,ab,nb,cb,ak,nk,ck,c0,c1,c2,c3,c4,hr,hn,hm,ih hk⟩
theorem KidsI.touch {d:Nat}:∀ {S P:Nat→Prop} {w w':World} {a:Option Addr} {n:Nat} {xs:List It},KidsI d S w a n xs→(∀ k,S k→¬ P k)→TouchX P w w'→KidsI d S w' a n xs:=by
 induction d with
 | zero=>intro _ _ _ _ _ _ _ h; exact h.elim
 | succ d ih =>
  intro S P w w' a n xs h hd ht
  refine ⟨h.1,h.2.1,fun k hk=>?_⟩
  obtain ⟨b,off,ha,hlt,hS,ab,nb,cb,ak,nk,ck,c0,c1,c2,c3,c4,hr,hn,hm,hk⟩:=h.2.2 k hk
  have cc:∀ j,w'.cell? ⟨b,j,none⟩=w.cell? ⟨b,j,none⟩:=fun j=>World.cell?_of_block (a:=⟨b,j,none⟩) (ht.block b hlt (hd b hS))
  exact ⟨b,off,ha,Nat.lt_of_lt_of_le hlt ht.size,hS,ab,nb,cb,ak,nk,ck,(cc _).trans c0,(cc _).trans c1,(cc _).trans c2,(cc _).trans c3,(cc _).trans c4,hr.touch hd ht,hn,hm,ih hk hd ht⟩
theorem KidsI.none (d:Nat)(S:Nat→Prop)(w:World)(a:Option Addr):KidsI (d+1) S w a 0 []:=⟨rfl,by decide,fun k hk=>absurd hk (Nat.not_lt_zero _)⟩
structure ItV (d:Nat)(S:Nat→Prop)(w:World)(x:It)(ab:Option Addr)(nb cb:Nat)(ak:Option Addr)(nk ck:Nat):Prop where
 row:RowI S w ab nb x.body
 nil:ab=none→cb=0
 max:nb≤9223372036854775807
 kids:KidsI d S w ak nk x.kids
theorem ItV.touch {d:Nat}{S P:Nat→Prop}{w w':World}{x:It}{ab:Option Addr}{nb cb:Nat}{ak:Option Addr}{nk ck:Nat}(h:ItV d S w x ab nb cb ak nk ck)(hd:∀ k,S k→¬ P k)(ht:TouchX P w w'):ItV d S w' x ab nb cb ak nk ck:=⟨h.row.touch hd ht,h.nil,h.max,h.kids.touch hd ht⟩
theorem ItV.kept {d:Nat}{S:Nat→Prop}{w w':World}{x:It}{ab:Option Addr}{nb cb:Nat}{ak:Option Addr}{nk ck:Nat}(h:ItV d S w x ab nb cb ak nk ck)(hb:Below w.heap.size w w'):ItV d S w' x ab nb cb ak nk ck:=h.touch (P:=fun _=>False) (fun _ _ h=>h) (TouchX.of_below hb)
theorem ItV.mono {d:Nat}{S T:Nat→Prop}{w:World}{x:It}{ab:Option Addr}{nb cb:Nat}{ak:Option Addr}{nk ck:Nat}(h:ItV d S w x ab nb cb ak nk ck)(hs:∀ k,S k→T k):ItV d T w x ab nb cb ak nk ck:=⟨h.row.mono hs,h.nil,h.max,h.kids.mono hs⟩
theorem ItV.more {d:Nat}{S:Nat→Prop}{w:World}{x:It}{ab:Option Addr}{nb cb:Nat}{ak:Option Addr}{nk ck:Nat}(h:ItV d S w x ab nb cb ak nk ck):ItV (d+1) S w x ab nb cb ak nk ck:=⟨h.row,h.nil,h.max,h.kids.more⟩
def itc (x:It)(ab:Option Addr)(nb cb:Nat)(ak:Option Addr)(nk ck:Nat):List Value:=[.int .i64 x.cls,.int .i64 x.tag,.bool x.cons,.slice ab nb cb,.slice ak nk ck]
structure OwnIts (d:Nat)(S:Nat→Prop)(w:World)(a:Option Addr)(n c:Nat)(xs:List It):Prop where
 len:xs.length=n
 max:n≤9223372036854775807
 own:∃ vs,w.ownsRow 0 81 5 (.slice a n c) n vs∧∀ k,k<n→∃ ab nb cb ak nk ck,(∀ j,j<5→vs[k * 5+j]? = (itc (xs.getD k default) ab nb cb ak nk ck)[j]?)∧ItV d S w (xs.getD k default) ab nb cb ak nk ck
 ap:∀ b,(Value.slice a n c).ownBlock=some b→¬ S b
theorem OwnIts.nil (d:Nat)(w:World):OwnIts d (fun _=>False) w none 0 0 []:=⟨rfl,by decide,⟨[],⟨rfl,.inl ⟨rfl,rfl⟩⟩,fun k hk=>absurd hk (Nat.not_lt_zero _)⟩,fun b hb=>by cases hb⟩
theorem OwnIts.touch {d:Nat}{S P:Nat→Prop}{w w':World}{a:Option Addr}{n c:Nat}{xs:List It}(h:OwnIts d S w a n c xs)(hd:∀ k,S k→¬ P k)(hr:∀ b,(Value.slice a n c).ownBlock=some b→¬ P b)(ht:TouchX P w w'):OwnIts d S w' a n c xs:=by
 obtain ⟨h0,h1,⟨vs,hv,h2⟩,h3⟩:=h
 refine ⟨h0,h1,⟨vs,ownsRow_moveX (S:=fun b=>(Value.slice a n c).ownBlock=some b) hv (fun _ h=>h) hr ht,fun k hk=>?_⟩,h3⟩
 obtain ⟨ab,nb,cb,ak,nk,ck,e,hi⟩:=h2 k hk
 exact ⟨ab,nb,cb,ak,nk,ck,e,hi.touch hd ht⟩
theorem OwnIts.kept {d:Nat}{S:Nat→Prop}{w w':World}{a:Option Addr}{n c:Nat}{xs:List It}(h:OwnIts d S w a n c xs)(hb:Below w.heap.size w w'):OwnIts d S w' a n c xs:=h.touch (P:=fun _=>False) (fun _ _ h=>h) (fun _ _ h=>h) (TouchX.of_below hb)
theorem OwnIts.mono {d:Nat}{S T:Nat→Prop}{w:World}{a:Option Addr}{n c:Nat}{xs:List It}(h:OwnIts d S w a n c xs)(hs:∀ k,S k→T k)(hr:∀ b,(Value.slice a n c).ownBlock=some b→¬ T b):OwnIts d T w a n c xs:=by
 obtain ⟨h0,h1,⟨vs,hv,h2⟩,h3⟩:=h
 refine ⟨h0,h1,⟨vs,hv,fun k hk=>?_⟩,hr⟩
 obtain ⟨ab,nb,cb,ak,nk,ck,e,hi⟩:=h2 k hk
 exact ⟨ab,nb,cb,ak,nk,ck,e,hi.mono hs⟩
theorem OwnIts.kids {d:Nat}{S T:Nat→Prop}{w:World}{a:Option Addr}{n c:Nat}{xs:List It}(h:OwnIts d S w a n c xs)(hs:∀ k,S k→T k)(hr:∀ b,(Value.slice a n c).ownBlock=some b→T b):KidsI (d+1) T w a n xs:=by
 obtain ⟨h0,h1,⟨vs,hv,h2⟩,h3⟩:=h
 refine ⟨h0,h1,fun k hk=>?_⟩
 obtain ⟨ab,nb,cb,ak,nk,ck,e,hi⟩:=h2 k hk
 rcases hv.2 with ⟨_,hn⟩ | ⟨g,cap,cur,hva,_,hh,_⟩
 ·omega
 ·simp only [Value.slice.injEq] at hva
  obtain ⟨rfl,_,rfl⟩:=hva
  have cc:∀ j,j<5→w.cell? ⟨g,0+k * 5+j,none⟩=(itc (xs.getD k default) ab nb cb ak nk ck)[j]?:=fun j hj=>by
   rw [Nat.zero_add,hv.cellAt _ (by omega)]
   exact e j hj
  exact ⟨g,0,rfl,(Array.getElem?_eq_some_iff.1 hh).1,hr g rfl,ab,nb,cb,ak,nk,ck,cc 0 (by omega),cc 1 (by omega),cc 2 (by omega),cc 3 (by omega),cc 4 (by omega),hi.row.mono hs,hi.nil,hi.max,hi.kids.mono hs⟩
theorem getI_last (xs:List It)(y:It):(xs++[y]).getD xs.length default=y:=by simp
theorem getI_more (xs:List It)(y:It)(k:Nat)(h:k<xs.length):(xs++[y]).getD k default=xs.getD k default:=by simp [List.getElem?_append_left h,h]
theorem OwnIts.appended {d:Nat}{S T:Nat→Prop}{w w1:World}{a:Option Addr}{n c:Nat}{xs:List It}{y:It}{ab:Option Addr}{nb cb:Nat}{ak:Option Addr}{nk ck:Nat}{g' c':Nat}
  (h:OwnIts d S w a n c xs) (hy:ItV d T w y ab nb cb ak nk ck) (hs:∀ b,S b→T b) (hr:∀ b,(Value.slice a n c).ownBlock=some b→¬ T b) (hlt:∀ b,T b→b<w.heap.size) (hn:n+1≤9223372036854775807)
  {vs:List Value} (hv0:w.ownsRow 0 81 5 (.slice a n c) n vs) (hv:w1.ownsRow 0 81 5 (.slice (some ⟨g',0,none⟩) (n+1) c') (n+1) (vs++itc y ab nb cb ak nk ck)) (hg:w.grownBy w1 (Value.slice a n c).ownBlock) (hl:(Value.slice a n c).ownBlock=some g'∨g'=w.heap.size):OwnIts d T w1 (some ⟨g',0,none⟩) (n+1) c' (xs++[y]):=by
 obtain ⟨h0,h1,⟨us,hu,h2⟩,h3⟩:=h
 have euv:us=vs:=by
  rcases hu.2 with ⟨h4,h5⟩ | ⟨g1,cap1,cur1,e1,_,hh1,_,_,_,ht1⟩
  ·have q1:=hu.1
   have q2:=hv0.1
   rw [h5] at q1 q2
   exact (List.eq_nil_of_length_eq_zero (by omega)).trans (List.eq_nil_of_length_eq_zero (by omega)).symm
  ·rcases hv0.2 with ⟨h4,h5⟩ | ⟨g2,cap2,cur2,e2,_,hh2,_,_,_,ht2⟩
   ·rw [h4] at e1; cases e1
   ·rw [e1] at e2
    simp only [Value.slice.injEq,Option.some.injEq,Addr.mk.injEq,and_true] at e2
    rw [e2.1] at hh1
    rw [hh1] at hh2
    injection hh2 with hh2
    injection hh2 with hh2
    rw [← ht1,← ht2,hh2]
 subst euv
 have ht:TouchX (fun b=>(Value.slice a n c).ownBlock=some b) w w1:=touchX_g hg (fun k hk=>hk)
 have hd:∀ b,T b→¬ (Value.slice a n c).ownBlock=some b:=fun b hb e=>hr b e hb
 have hul:us.length=n * 5:=hu.1
 refine ⟨by simp [h0],hn,⟨_,hv,fun k hk=>?_⟩,fun b hb hT=>?_⟩
 ·by_cases e:k=n
  ·subst e
   have e2:(xs++[y]).getD k default=y:=by rw [← h0]; exact getI_last xs y
   rw [e2]
   refine ⟨ab,nb,cb,ak,nk,ck,fun j hj=>?_,hy.touch hd ht⟩
   rw [List.getElem?_append_right (by omega)]
   congr 1
   omega
  ·have e2:(xs++[y]).getD k default=xs.getD k default:=getI_more xs y k (by omega)
   rw [e2]
   obtain ⟨ab,nb,cb,ak,nk,ck,e3,hi⟩:=h2 k (by omega)
   refine ⟨ab,nb,cb,ak,nk,ck,fun j hj=>?_,(hi.mono hs).touch hd ht⟩
   rw [List.getElem?_append_left (by omega)]
   exact e3 j hj
 ·have:g'=b:=by injection hb
  rw [← this] at hT
  rcases hl with hl | hl
  ·exact hr g' hl hT
  ·have:=hlt g' hT
   omega
end Go.Proofs.YtkdandggklpppaaGreatDoor
