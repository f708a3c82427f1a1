import Derived.Great.BuildSlice
import Derived.Great.Walk
import Derived.Deep.Cut
import Derived.OwnWalk
import Derived.Deep.Slices
import Derived.ChangeArms
import Derived.ChangeSlices
import Derived.ProofKit
import Derived.Test.YtmdfbnlgfhjnoaaGreatDoorFD19
import Derived.Test.YtmdfbnlgfhjnoaaGreatDoorFD17
set_option maxRecDepth 10000
set_option maxHeartbeats 8000000
set_option linter.unusedVariables false
namespace Go.Proofs.YtmdfbnlgfhjnoaaGreatDoor
open Go.RowKit
def calledP (xs:List PT):Prop:=nameP xs∧xs≠[]
open Go.RowKit
theorem genP_1 {g:GT}{xs:List PT}(hk:g.kind=1)(hb:bareB g xs.length=true)(h0:g.bits=0):genP g xs↔hostP g.text true:=by
 obtain ⟨q1,q2⟩:=bare_12 hb (.inl hk)
 unfold genP
 constructor
 ·rintro (⟨_,_,h⟩ | ⟨h,_⟩ | ⟨h,_⟩ | ⟨h,_⟩)
  ·exact h
  all_goals omega
 ·exact fun h=>.inl ⟨hk,⟨q1,h0,q2⟩,h⟩
theorem genP_2 {g:GT}{xs:List PT}(hk:g.kind=2)(hb:bareB g xs.length=true)(h0:g.bits=0):genP g xs↔mailP g.text:=by
 obtain ⟨q1,q2⟩:=bare_12 hb (.inr hk)
 unfold genP
 constructor
 ·rintro (⟨h,_⟩ | ⟨_,_,h⟩ | ⟨h,_⟩ | ⟨h,_⟩)
  ·omega
  ·exact h
  all_goals omega
 ·exact fun h=>.inr (.inl ⟨hk,⟨q1,h0,q2⟩,h⟩)
theorem genP_3 {g:GT}{xs:List PT}(hk:g.kind=3)(hb:bareB g xs.length=true)(h0:g.bits=0):genP g xs↔(0≤g.addr∧g.addr≤4294967295):=by
 obtain ⟨q1,q2⟩:=bare_3 hb hk
 unfold genP
 constructor
 ·rintro (⟨h,_⟩ | ⟨h,_⟩ | ⟨_,_,h,_⟩ | ⟨h,_⟩)
  ·omega
  ·omega
  ·exact h
  ·omega
 ·exact fun h=>.inr (.inr (.inl ⟨hk,⟨q1,q2⟩,h,h0⟩))
theorem genP_4 {g:GT}{xs:List PT}(hk:g.kind=4)(hb:bareB g xs.length=true)(h0:g.bits=0):genP g xs↔(nameP xs∧0<xs.length):=by
 obtain ⟨q1,q2⟩:=bare_4 hb hk
 unfold genP
 constructor
 ·rintro (⟨h,_⟩ | ⟨h,_⟩ | ⟨h,_⟩ | ⟨_,_,h⟩)
  ·omega
  ·omega
  ·omega
  ·exact h
 ·exact fun h=>.inr (.inr (.inr ⟨hk,⟨q1,q2,h0⟩,h⟩))
theorem genP_bits {g:GT}{xs:List PT}(h:genP g xs):g.bits=0:=by
 rcases h with ⟨_,⟨_,h,_⟩,_⟩ | ⟨_,⟨_,h,_⟩,_⟩ | ⟨_,_,_,h⟩ | ⟨_,⟨_,_,h⟩,_⟩ <;> exact h
theorem genP_kind {g:GT}{xs:List PT}(h:genP g xs):g.kind=1∨g.kind=2∨g.kind=3∨g.kind=4:=by
 rcases h with ⟨h,_⟩ | ⟨h,_⟩ | ⟨h,_⟩ | ⟨h,_⟩ <;> omega
theorem baseP_kind {g:GT}{xs:List PT}(h:baseP g xs):g.kind=1∨g.kind=2∨g.kind=3∨g.kind=4:=by
 rcases h with ⟨h,_⟩ | ⟨h,_⟩ | ⟨h,_⟩ | ⟨h,_⟩ <;> omega
theorem specGenOk_any (g:GT)(a:Option Addr)(n c:Nat)(xs:List PT)(w:World)(h:Pts w a n xs)(hz:∀ k,k<n→(xs.getD k default).val.size≤1048576)(hs:g.text.size≤1048576) :
  Calls Tryz.prog 133 #[gnv g a n c] w (SaysB (genP g xs) w):=by
 obtain ⟨P,hP⟩:∃ P,P=genP g xs:=⟨_,rfl⟩
 rw [← hP]
 have HP:Hid (P=genP g xs):=hP
 have HK:Hid (Pts w a n xs):=h
 have HZ:Hid (_):=hz
 have hl:=h.len
 have hmx:=h.max
 clear hP h hz
 have hbl:Below w.heap.size w (w.alloc (.cells #[.int .i64 g.kind,.string g.text,.int .i64 g.addr,.int .i64 g.bits,.slice a n c] 127)):=(Below.refl _ _).alloc (Nat.le_refl _) _
 have hbx:=boxG_new 127 w g a n c
 have LB:=l6Bare_any g a n c
 unfold gnv at LB ⊢
 go_enter Tryz.func133,Tryz.ntmps133
 go_wp2_with fail
 refine (LB _).mono ?_
 rintro e w1 ⟨rfl,hb1⟩
 have B1:Below w.heap.size w w1:=hbl.trans (hb1.mono hbl.size)
 obtain ⟨p0,p1,p2,p3,p4⟩:=(hbx.kept hb1).cells
 have hlt:w.heap.size<w1.heap.size:=Nat.lt_of_lt_of_le (by simp) hb1.size
 obtain ⟨B,hB⟩:∃ B,B=bareB g n:=⟨_,rfl⟩
 rw [← hB]
 clear LB hbx hbl hb1
 cases B with
 | false =>
  have HN:Hid (¬ P):=by show ¬ P; rw [HP.out]; exact (bare_f (by rw [hl]; exact hB.symm)).1
  clear hB HP HK HZ
  go_wp2
  go_ret
  exact saysB_f HN.out B1
 | true =>
  have HBB:Hid (bareB g xs.length=true):=by show _=true; rw [hl]; exact hB.symm
  clear hB
  by_cases hb0:g.bits=0
  ·have zb:(g.bits != 0)=false:=by simp [hb0]
   by_cases k1:g.kind=1
   ·have HI:Hid (P↔hostP g.text true):=by show P↔_; rw [HP.out]; exact genP_1 k1 HBB.out hb0
    have e1:(g.kind == 1)=true:=beq_iff_eq.2 k1
    clear HP HK HZ HBB hb0 k1
    go_wp2_with fail
    refine (specHostOk_any g.text true _).mono ?_
    rintro e w2 ⟨b,rfl,HV,hb2⟩
    have B2:Below w.heap.size w w2:=B1.trans (hb2.mono B1.size)
    go_wp2
    go_ret
    exact ⟨b,rfl,HV.out.trans HI.out.symm,B2⟩
   have e1:(g.kind == 1)=false:=beq_false_of_ne k1
   by_cases k2:g.kind=2
   ·have HI:Hid (P↔mailP g.text):=by show P↔_; rw [HP.out]; exact genP_2 k2 HBB.out hb0
    have e2:(g.kind == 2)=true:=beq_iff_eq.2 k2
    clear HP HK HZ HBB hb0 k1 k2
    go_wp2_with fail
    refine (l6MailOk_any g.text _ hs).mono ?_
    rintro e w2 ⟨b,rfl,HV,hb2⟩
    have B2:Below w.heap.size w w2:=B1.trans (hb2.mono B1.size)
    go_wp2
    go_ret
    exact ⟨b,rfl,HV.out.trans HI.out.symm,B2⟩
   have e2:(g.kind == 2)=false:=beq_false_of_ne k2
   by_cases k3:g.kind=3
   ·have HI:Hid (P↔(0≤g.addr∧g.addr≤4294967295)):=by show P↔_; rw [HP.out]; exact genP_3 k3 HBB.out hb0
    have e3:(g.kind == 3)=true:=beq_iff_eq.2 k3
    clear HP HK HZ HBB hb0 k1 k2 k3
    go_wp2_with fail
    refine (l1In_says g.addr 0 4294967295 _).mono ?_
    rintro e w2 ⟨b,rfl,HV,hw2⟩
    subst hw2
    go_wp2
    go_ret
    exact ⟨b,rfl,HV.out.trans HI.out.symm,B1⟩
   have e3:(g.kind == 3)=false:=beq_false_of_ne k3
   by_cases k4:g.kind=4
   ·have HI:Hid (P↔(nameP xs∧0<xs.length)):=by show P↔_; rw [HP.out]; exact genP_4 k4 HBB.out hb0
    have e4:(g.kind == 4)=true:=beq_iff_eq.2 k4
    clear HP HBB hb0 k1 k2 k3 k4
    have SN:=specNameOk_any a n c xs w1 (HK.out.kept B1) HZ.out
    unfold nmv at SN
    go_wp2_with fail
    refine SN.mono ?_
    rintro e w2 ⟨b,rfl,HV,hb2⟩
    have B2:Below w.heap.size w w2:=B1.trans (hb2.mono B1.size)
    have y4:w2.cell? ⟨w.heap.size,4,none⟩=some (.slice a n c):=(hb2.cell (p:=⟨w.heap.size,4,none⟩) hlt).trans p4
    clear SN HK HZ
    cases b with
    | false =>
     have HN:Hid (¬ P):=fun q=>Bool.false_ne_true (HV.out.2 (HI.out.1 q).1)
     clear HV HI
     go_wp2
     go_ret
     exact saysB_f HN.out B2
    | true =>
     by_cases hn0:0<n
     ·have HN:Hid P:=HI.out.2 ⟨HV.out.1 rfl,by rw [hl]; exact hn0⟩
      have zn:decide ((0:Int)<(n:Int))=true:=decide_eq_true (by omega)
      clear HV HI
      go_wp2
      go_ret
      exact saysB_t HN.out B2
     ·have HN:Hid (¬ P):=fun q=>hn0 (by rw [← hl]; exact (HI.out.1 q).2)
      have zn:decide ((0:Int)<(n:Int))=false:=decide_eq_false (by omega)
      clear HV HI
      go_wp2
      go_ret
      exact saysB_f HN.out B2
   ·have e4:(g.kind == 4)=false:=beq_false_of_ne k4
    have HN:Hid (¬ P):=by show ¬ P; rw [HP.out]; intro q; rcases genP_kind q with q | q | q | q <;> omega
    clear HP HK HZ HBB hb0 k1 k2 k3 k4
    go_wp2
    go_ret
    exact saysB_f HN.out B1
  ·have zb:(g.bits != 0)=true:=bne_iff_ne.2 hb0
   have HN:Hid (¬ P):=by show ¬ P; rw [HP.out]; exact fun q=>hb0 (genP_bits q)
   clear HP HK HZ HBB hb0
   go_wp2
   go_ret
   exact saysB_f HN.out B1
open Go.RowKit
def Keeps (B:Nat)(W:World)(Q:World→Prop):Prop:=∃ R:World→Prop,Stab B R∧R W∧∀ W',R W'→Q W'
theorem Keeps.now {B:Nat}{W:World}{Q:World→Prop}(h:Keeps B W Q):Q W:=by
 obtain ⟨R,_,hr,hq⟩:=h
 exact hq _ hr
theorem Keeps.mono {B B':Nat}{W:World}{Q:World→Prop}(h:Keeps B' W Q)(hB:B≤B'):Keeps B W Q:=by
 obtain ⟨R,hs,hr,hq⟩:=h
 exact ⟨R,fun W W' e s r=>hs W W' (fun l hl=>e l (by omega)) s r,hr,hq⟩
theorem stab_keeps (B:Nat)(Q:World→Prop):Stab B (fun W=>Keeps B W Q):=fun W W' e s h=>by
 obtain ⟨R,hs,hr,hq⟩:=h
 exact ⟨R,hs,hs W W' e s hr,hq⟩
theorem keeps_of {B:Nat}{W:World}{Q:World→Prop}(hs:Stab B Q)(h:Q W):Keeps B W Q:=⟨Q,hs,h,fun _ h=>h⟩
theorem Keeps.map {B:Nat}{W:World}{Q P:World→Prop}(h:Keeps B W Q)(f:∀ W,Q W→P W):Keeps B W P:=by
 obtain ⟨R,hs,hr,hq⟩:=h
 exact ⟨R,hs,hr,fun W h=>f W (hq W h)⟩
theorem stab_owns {B t m n:Nat}{v:Value}{vs:List Value}:Stab B (fun W=>W.ownsRow B t m v n vs):=fun W W' e s h=>by
 refine ⟨h.1,?_⟩
 rcases h.2 with q | ⟨g,c,cur,h1,hb,hg,r⟩
 ·exact .inl q
 ·exact .inr ⟨g,c,cur,h1,hb,(e g (by omega) (Array.getElem?_eq_some_iff.1 hg).1).trans hg,r⟩
theorem stab_64 {lo hi:Nat}{a:Option Addr}{n cap:Nat}{zs:List Int}:Stab lo (fun W=>Own64 lo hi W a n cap zs):=fun W W' e s h=>⟨stab_owns W W' e s h.row,h.lt⟩
theorem toInt64S_k (a:Option Addr)(n cap:Nat)(zs:List Int)(w:World)(h:Row64 w a n zs)(hn:n≤1048576) :
  Calls Tryz.prog 40 #[.slice a n cap] w fun e w'=>∃ a',e=.returned (.slice a' n n)∧Keeps w.heap.size w' (fun W=>Row64 W a' n zs)∧Below w.heap.size w w' :=
 (toInt64S_any a n cap zs w h hn).mono fun _ _ ⟨_,h1,h2,h3⟩=>⟨_,h1,(keeps_of stab_64 h2).map (fun _ q=>q.toRow),h3⟩
theorem szInt64S_q (a:Option Addr)(n cap:Nat)(left:Int)(w:World)(hn:n≤9223372036854775807)(h0:0≤left)(h1:left≤1048576) :
  Calls Tryz.prog 31 #[.slice a n cap,.int .i64 left] w fun e w'=>∃ r,e=.returned (.int .i64 r)∧(r<0∨(0≤r∧r≤1048576∧n≤1048576))∧w=w':=by
 by_cases hlt:(n:Int)≤left
 ·go_enter Tryz.func31,Tryz.ntmps31
  go_wp2
  go_ret
  exact ⟨_,rfl,.inr (by omega),rfl⟩
 ·go_enter Tryz.func31,Tryz.ntmps31
  go_wp2
  go_ret
  exact ⟨_,rfl,.inl (by decide),rfl⟩
open Go.RowKit
def leW:List Int:=[108,101,97,102]
def ndW:List Int:=[110,111,100,101]
theorem leW_byte:∀ k,0≤leW.getD k 0∧leW.getD k 0≤255:=bytes_of_all (by decide)
theorem ndW_byte:∀ k,0≤ndW.getD k 0∧ndW.getD k 0≤255:=bytes_of_all (by decide)
theorem good_word (w:World)(bs:List Int)(fr:Nat × Nat)(h:∀ k,0≤bs.getD k 0∧bs.getD k 0≤255):Good (w.alloc (.cells (wordC bs) 5 fr)) (some ⟨w.heap.size,0,none⟩,bs.length,bs.length,bs) :=
 ⟨row_word w bs fr h,(fun h=>by cases h),fun b off s e=>by simp at e; obtain ⟨rfl,_⟩:=e; exact ⟨_,5,_,heap_alloc_new w _,by decide⟩⟩
theorem OwnP.mono {B B':Nat}{w:World}{a:Option Addr}{n cap:Nat}{ps:List Part}(h:OwnP B w a n cap ps)(hB:B'≤B):OwnP B' w a n cap ps :=
 ⟨⟨h.row.1,by rcases h.row.2 with h | ⟨g,cap,cur,hv,hb,r⟩; exact .inl h; exact .inr ⟨g,cap,cur,hv,by omega,r⟩⟩,h.get⟩
theorem l8Leaf_any (a:Option Addr)(n c:Nat)(ds:List Int)(w:World)(h:RowU w a n ds)(hn:n≤100000) :
  Calls Tryz.prog 168 #[.slice a n c] w fun e w'=>e=.returned (.int .u64 (hashD leW ds))∧Below w.heap.size w w':=by
 obtain ⟨i0,hi,hz0,hz1,hz2⟩:=info_parts Tryz.infoBytes
 have H0:Hid (RowU w a n ds):=h
 have HL:Hid (ds.length=n):=h.len
 clear h
 have hcv:=Lib.run_convert_bytes_const (P:=Tryz.prog) w 32 5 #[.int .u8 108,.int .u8 101,.int .u8 97,.int .u8 102] 4 4 Tryz.underlying32 Tryz.underlying5
 have hgd:Good (w.alloc (.cells #[.int .u8 108,.int .u8 101,.int .u8 97,.int .u8 102] 5 (4,5))) (some ⟨w.heap.size,0,none⟩,4,4,leW):=good_word w leW (4,5) leW_byte
 have hb0:Below w.heap.size w (w.alloc (.cells #[.int .u8 108,.int .u8 101,.int .u8 97,.int .u8 102] 5 (4,5))):=(Below.refl _ _).alloc (Nat.le_refl _) _
 obtain ⟨W,hW⟩:∃ W,W=w.alloc (.cells #[.int .u8 108,.int .u8 101,.int .u8 97,.int .u8 102] 5 (4,5)):=⟨_,rfl⟩
 have HWW:Hid (_=_):=hW
 have hsz:W.heap.size=w.heap.size+1:=by rw [hW]; simp
 rw [← hW] at hgd hb0
 clear hW
 have HO:Hid (OwnP W.heap.size (W.alloc (.cells #[.slice (some ⟨w.heap.size,0,none⟩) 4 4] 32)) (some ⟨W.heap.size,0,none⟩) 1 1 [(some ⟨w.heap.size,0,none⟩,4,4,leW)]):=ownP_one W _ hgd
 have hb1:Below w.heap.size w (W.alloc (.cells #[.slice (some ⟨w.heap.size,0,none⟩) 4 4] 32)):=hb0.alloc hb0.size _
 have hWs:w.heap.size≤w.heap.size+1:=Nat.le_succ _
 rw [hsz] at HO
 clear hsz
 go_enter Tryz.func168,Tryz.ntmps168
 rw [HWW.out] at HO hb1
 go_wp2
 clear hcv
 go_loopw [3,4] (fun o i wr=>∃ (k m cc:Nat) (ao:Option Addr) (ps:List Part),k≤n∧m=k+1∧i=.int .i64 k∧o=.slice ao m cc∧OwnP w.heap.size wr ao m cc ps∧Hid (bytesOfP ps=leW::(ds.take k).map eightI)∧Below w.heap.size w wr) (fun _ i _=>n - (intOf i).toNat)
 case atStart=>exact ⟨0,1,1,_,_,Nat.zero_le _,rfl,rfl,rfl,HO.out.mono hWs,rfl,hb1⟩
 case round =>
  obtain ⟨k,m,cc,ao,ps,hk,rfl,rfl,rfl,hor,HP,hbr⟩:=hrel
  have hws:=hbr.size
  by_cases hlt:k<n
  ·obtain ⟨b,off,rfl,hlb,hc0⟩:=H0.out.get k hlt
   have hcell:wr.cell? ⟨b,off+k,none⟩=some (.int .u64 (ds.getD k 0)):=(hbr.cell (p:=⟨b,off+k,none⟩) hlb).trans hc0
   obtain ⟨hd0,hd1⟩:=H0.out.rng k
   obtain ⟨d,hd⟩:∃ d,d=ds.getD k 0:=⟨_,rfl⟩
   rw [← hd] at hcell hd0 hd1
   have HN:Hid (leW::(ds.take (k+1)).map eightI=(leW::(ds.take k).map eightI)++[eightI d]):=by show _=_; rw [map_snoc ds k (by rw [HL.out]; exact hlt),hd]; rfl
   have hlti:(k:Int)<(n:Int):=by omega
   have HOR:Hid (_):=hor
   clear hd hc0 hor HO
   go_wp2_with fail
   refine (l1Eight_any d _ hd0 hd1).mono ?_
   rintro e w2 ⟨ag,cg,rfl,hown,hb2⟩
   have hgd2:Good w2 (ag,8,cg,eightI d):=⟨hown.toRow,hown.nil,hown.ty⟩
   have hor2:=HOR.out.kept hb2
   have hal:Below w2.heap.size w2 (w2.alloc (.cells #[.slice ag 8 cg] 32)):=(Below.refl _ _).alloc (Nat.le_refl _) _
   have hor3:=hor2.kept hal
   have hgd3:=hgd2.kept hal
   have hbr3:Below w.heap.size w (w2.alloc (.cells #[.slice ag 8 cg] 32)):=keepT (keepT hbr hb2) hal
   have hcl:∀ jj uu,([pval (ag,8,cg,eightI d)]:List Value)[jj]? = some uu→(w2.alloc (.cells #[.slice ag 8 cg] 32)).cell? ((⟨w2.heap.size,0,none⟩:Addr).add jj)=some uu:=by
    intro jj uu hju
    rw [Addr.add_lit,Nat.zero_add,cell_of_row _ w2.heap.size jj _ 32 _ (heap_alloc_new w2 _),← hju]
    simp [pval]
   clear hown hgd2 hor2 hal HOR
   go_wp2_with (first | (at_builtin; refine wpList_append_own _ rfl (.tmp 14) (.tmp 20) 191 rfl w.heap.size 32 i0 _ 1 24 Tryz.underlying191 hi hz0 hz1 hz2 rfl (by decide) _ (k+1) _ rfl hor3.row ⟨w2.heap.size,0,none⟩ 1 1 [pval (ag,8,cg,eightI d)] rfl rfl hcl (by intro u hu; simp at hu; subst hu; rfl) (by unfold maxLen; omega) (by omega) (by have:=hbr3.size; exact this) ?_; intro v4 w4 hv4 hg4 _))
   have he:ps.map pval++[pval (ag,8,cg,eightI d)]=(ps++[((ag,8,cg,eightI d):Part)]).map pval:=by rw [List.map_append]; rfl
   rw [he] at hv4
   obtain ⟨a4,c4,rfl,ho4⟩:=ownP_appended hor3.row hv4 hg4 hor3.get hgd3
   have hbr4:Below w.heap.size w w4:=hbr3.grown hg4 hbr3.size (fun k hk=>(hor3.row.lt k hk).1)
   have HN2:Hid (bytesOfP (ps++[((ag,8,cg,eightI d):Part)])=leW::(ds.take (k+1)).map eightI):=by show _=_; rw [HN.out,← HP.out]; unfold bytesOfP; rw [List.map_append]; rfl
   go_roundw
   case rel=>exact ⟨k+1,k+1+1,c4,a4,_,by omega,rfl,by go_num,rfl,ho4,HN2,hbr4⟩
   case measure=>simp [intOf]; omega
  ·obtain rfl:k=n:=by omega
   have HR:Hid (Rows2 wr ao (k+1) (leW::ds.map eightI)):=by
    have:=hor.rows
    have e:=HP.out
    rw [List.take_of_length_le (by rw [HL.out]; exact Nat.le_refl _)] at e
    rw [← e]
    exact this
   have HT:Hid (total (leW::ds.map eightI)≤2097152):=by show _≤_; rw [total_parts,HL.out]; show 4+_≤_; omega
   clear hor HO HP
   go_wp2_with fail
   refine (specHashAll_any ao (k+1) cc (leW::ds.map eightI) _ HR.out (by omega) HT.out).mono ?_
   rintro e w2 ⟨rfl,hb2⟩
   go_wp2
   go_ret
   exact ⟨rfl,keepT hbr hb2⟩
theorem l8Node_any (x y:Int)(w:World)(hx:U64 x)(hy:U64 y) :
  Calls Tryz.prog 169 #[.int .u64 x,.int .u64 y] w fun e w'=>e=.returned (.int .u64 (hashD ndW [x,y]))∧Below w.heap.size w w':=by
 have HT:Hid (total [ndW,eightI x,eightI y]≤2097152):=by show _≤_; rw [show [ndW,eightI x,eightI y]=ndW::[x,y].map eightI from rfl,total_parts]; show 4+_≤_; simp
 have hcv:=Lib.run_convert_bytes_const (P:=Tryz.prog) w 32 5 #[.int .u8 110,.int .u8 111,.int .u8 100,.int .u8 101] 4 4 Tryz.underlying32 Tryz.underlying5
 have hrw:Row (w.alloc (.cells #[.int .u8 110,.int .u8 111,.int .u8 100,.int .u8 101] 5 (4,5))) (some ⟨w.heap.size,0,none⟩) 4 ndW:=row_word w ndW (4,5) ndW_byte
 have hb0:Below w.heap.size w (w.alloc (.cells #[.int .u8 110,.int .u8 111,.int .u8 100,.int .u8 101] 5 (4,5))):=(Below.refl _ _).alloc (Nat.le_refl _) _
 go_enter Tryz.func169,Tryz.ntmps169
 go_wp2_with fail
 clear hcv
 obtain ⟨w0,hw0⟩:∃ w0,w0=w.alloc (.cells #[.int .u8 110,.int .u8 111,.int .u8 100,.int .u8 101] 5 (4,5)):=⟨_,rfl⟩
 rw [← hw0] at hrw hb0 ⊢
 clear hw0
 refine (l1Eight_any x _ hx.1 hx.2).mono ?_
 rintro e w1 ⟨a1,c1,rfl,ho1,hb1⟩
 go_wp2_with fail
 refine (l1Eight_any y _ hy.1 hy.2).mono ?_
 rintro e w2 ⟨a2,c2,rfl,ho2,hb2⟩
 have B2:Below w0.heap.size w0 w2:=keepT hb1 hb2
 have B2':Below w.heap.size w w2:=keepT hb0 B2
 have HRS:Hid (Rows2 (w2.alloc (.cells #[.slice (some ⟨w.heap.size,0,none⟩) 4 4,.slice a1 8 c1,.slice a2 8 c2] 32)) (some ⟨w2.heap.size,0,none⟩) 3 [ndW,eightI x,eightI y]):=by
  refine rows2_lit w2 [(some ⟨w.heap.size,0,none⟩,4,4,ndW),(a1,8,c1,eightI x),(a2,8,c2,eightI y)] 32 ?_
  intro p hp
  simp only [List.mem_cons,List.not_mem_nil,or_false] at hp
  rcases hp with rfl | rfl | rfl
  ·exact ⟨hrw.kept B2,fun h=>by cases h⟩
  ·exact ⟨(ho1.kept hb2).toRow,ho1.nil⟩
  ·exact ⟨ho2.toRow,ho2.nil⟩
 have B3:Below w.heap.size w (w2.alloc (.cells #[.slice (some ⟨w.heap.size,0,none⟩) 4 4,.slice a1 8 c1,.slice a2 8 c2] 32)):=B2'.alloc B2'.size _
 clear ho1 ho2 hrw
 go_wp2_with fail
 refine (specHashAll_any _ 3 3 [ndW,eightI x,eightI y] _ HRS.out (by decide) HT.out).mono ?_
 rintro e w3 ⟨rfl,hb3⟩
 go_wp2
 go_ret
 exact ⟨rfl,keepT B3 hb3⟩
def stepN (v:Int):Int:=hashL (eightI v)
def stepsN (v:Int):Nat→Int
 | 0=>v
 | k+1=>stepN (stepsN v k)
theorem stepsN_bd (v:Int)(hv:U64 v)(k:Nat):U64 (stepsN v k):=by
 cases k with
 | zero=>exact hv
 | succ k=>exact (hashL_bd (eightI (stepsN v k)):U64 (hashL (eightI (stepsN v k))))
theorem stepped_any (v:Int)(n:Nat)(w:World)(hv:U64 v)(hn:n≤1000) :
  Calls Tryz.prog 286 #[.int .u64 v,.int .i64 n] w fun e w'=>e=.returned (.int .u64 (stepsN v n))∧Below w.heap.size w w':=by
 have HV:Hid (U64 v):=hv
 clear hv
 go_enter Tryz.func286,Tryz.ntmps286
 go_wp2
 go_loopw [0,6] (fun d i wr=>∃ (k:Nat) (x:Int),k≤n∧i=.int .i64 k∧d=.int .u64 x∧Hid (x=stepsN v k)∧Below w.heap.size w wr) (fun _ i _=>n - (intOf i).toNat)
 case atStart=>exact ⟨0,v,Nat.zero_le _,rfl,rfl,rfl,Below.refl _ _⟩
 case round =>
  obtain ⟨k,x,hk,rfl,rfl,HX,hbr⟩:=hrel
  by_cases hlt:k<n
  ·have hx:U64 x:=by rw [HX.out]; exact stepsN_bd v HV.out k
   have HN:Hid (hashL (eightI x)=stepsN v (k+1)):=by show _=_; rw [stepsN,← HX.out]; rfl
   have hlti:(k:Int)<(n:Int):=by omega
   clear HX
   go_wp2_with fail
   refine (digestBytes_any x _ hx.1 hx.2).mono ?_
   rintro e w2 ⟨g,rfl,hrow,_,hb2⟩
   go_wp2_with fail
   refine (implHash_any _ 8 _ (eightI x) _ hrow (by decide)).mono ?_
   rintro e w3 ⟨rfl,hb3⟩
   rw [HN.out]
   go_wp2
   go_roundw
   case rel=>exact ⟨k+1,_,by omega,by go_num,rfl,rfl,keepT (keepT hbr hb2) hb3⟩
   case measure=>simp [intOf]; omega
  ·obtain rfl:k=n:=by omega
   go_wp2
   go_ret
   exact ⟨by rw [HX.out]; rfl,hbr⟩
theorem l8Steps_any (v:Int)(n:Nat)(w:World)(hv:U64 v)(hn:n≤1000) :
  Calls Tryz.prog 167 #[.int .u64 v,.int .i64 n] w fun e w'=>e=.returned (.int .u64 (stepsN v n))∧Below w.heap.size w w':=by
 have HV:Hid (U64 v):=hv
 clear hv
 go_enter Tryz.func167,Tryz.ntmps167
 go_wp2
 go_loopw [0,5] (fun d i wr=>∃ (k:Nat) (x:Int),k≤n∧i=.int .i64 k∧d=.int .u64 x∧Hid (x=stepsN v k)∧Below w.heap.size w wr) (fun _ i _=>n - (intOf i).toNat)
 case atStart=>exact ⟨0,v,Nat.zero_le _,rfl,rfl,rfl,Below.refl _ _⟩
 case round =>
  obtain ⟨k,x,hk,rfl,rfl,HX,hbr⟩:=hrel
  by_cases hlt:k<n
  ·have hx:U64 x:=by rw [HX.out]; exact stepsN_bd v HV.out k
   have HN:Hid (hashL (eightI x)=stepsN v (k+1)):=by show _=_; rw [stepsN,← HX.out]; rfl
   have hlti:(k:Int)<(n:Int):=by omega
   clear HX
   go_wp2_with fail
   refine (l1Eight_any x _ hx.1 hx.2).mono ?_
   rintro e w2 ⟨ag,cg,rfl,hown,hb2⟩
   go_wp2_with fail
   refine (specHash_any _ 8 _ (eightI x) _ hown.toRow (by decide)).mono ?_
   rintro e w3 ⟨rfl,rfl⟩
   rw [HN.out]
   go_wp2
   go_roundw
   case rel=>exact ⟨k+1,_,by omega,by go_num,rfl,rfl,keepT hbr hb2⟩
   case measure=>simp [intOf]; omega
  ·obtain rfl:k=n:=by omega
   go_wp2
   go_ret
   exact ⟨by rw [HX.out]; rfl,hbr⟩
open Go.RowKit
theorem step_append_ownT {P:Program}{ops:Array Oper}{o:Oper}{a:Act}{w:World}{K:Act→World→Prop}{Q:Exit→Act→World→Prop}{E:Prop}
  (hg:o.guard=none) (s x:Operand) (t:TypeId) (hop:o.op=Op.call { callee:=Callee.builtin Builtin.append,args:=#[s,x],argTypes:=#[t,t] })
  (base:Nat) (e:TypeId) (i:TypeInfo) (z:Value) (size bytes:Nat) (h1:P.underlying t=some (.slice e)) (h2:P.info? e=some i) (h3:i.zero=some z) (h4:i.size=size) (h5:i.bytes=bytes) (h6:z.cells.size=size) (h7:0<size)
  (v:Value) (n:Nat) (xs:List Value) (hs:a.eval s=v) (hown:w.ownsRow base e size v n xs)
  (ad:Addr) (m c:Nat) (news:List Value) (hx:a.eval x=.slice (some ad) m c) (hn:news.length=m * size) (hc:∀ j u,news[j]? = some u→w.cell? (ad.add j)=some u) (h1c:∀ u∈news,u.oneCell'=true)
  (b1:n+m≤maxLen) (b2:(n+m) * bytes≤140737488355328) (b3:base≤w.heap.size)
  (hK:∀ v' w',w'.ownsRow base e size v' (n+m) (xs++news)→w.grownBy w' v.ownBlock→K (a.put o.dst v') w') :
  if Region.wanted o (yielded ops a.tmps)=true then Oper.wp P o a w K Q else E:=by
 have hw:Region.wanted o (yielded ops a.tmps)=true:=by simp [Region.wanted,hg]
 rw [if_pos hw]
 obtain ⟨v',w',hrun,r1,r2,_⟩:=run_append_own (P:=P) w base t o.type e i z size bytes h1 h2 h3 h4 h5 h6 h7 v n xs hown ad m c news hn hc h1c b1 b2 b3
 unfold Oper.wp
 simp [execOp,hop,resolve,invoke,builtin,hs,hx,hrun,Result.andThen]
 exact hK v' w' r1 r2
theorem Tryz.infoU:(Tryz.prog.info? 25).map (fun i=>(i.zero,i.size,i.bytes))=some (some (.int .u64 0),1,8):=by kernel_rfl
theorem cell_oneU (w:World)(x:Int):∀ jj uu,([x].map (Value.int .u64))[jj]? = some uu→(w.alloc (.cells #[.int .u64 x] 25)).cell? ((⟨w.heap.size,0,none⟩:Addr).add jj)=some uu:=by
 intro jj uu hju
 rw [Addr.add_lit,Nat.zero_add,cell_of_row _ w.heap.size jj _ 25 _ (heap_alloc_new w _),← hju]
 simp
theorem madeU {B n:Nat}{w:World}{v:Value}(h:w.ownsRow B 25 1 v n (madeCells (Value.int .u64 0).cells (n * 1)).toList):w.ownsRow B 25 1 v n ((List.replicate n (0:Int)).map (Value.int .u64)):=by
 have e:(madeCells (Value.int .u64 0).cells (n * 1)).toList=(List.replicate n (0:Int)).map (Value.int .u64):=by
  rw [List.map_replicate,Nat.mul_one]; exact toList_madeCells_one _ _
 rwa [e] at h
theorem u64_take {zs:List Int}(h:∀ k,U64 (zs.getD k 0))(j:Nat):∀ k,U64 ((zs.take j).getD k 0):=by
 intro k
 have:=h k
 rw [List.getD_eq_getElem?_getD,List.getElem?_take]
 split
 ·simpa [List.getD_eq_getElem?_getD] using this
 ·simp [U64]
open Go.RowKit
theorem rowU_lit2 (w:World)(x y:Int)(hx:U64 x)(hy:U64 y):RowU (w.alloc (.cells #[.int .u64 x,.int .u64 y] 25)) (some ⟨w.heap.size,0,none⟩) 2 [x,y]:=by
 refine ⟨rfl,fun k hk=>⟨w.heap.size,0,rfl,by simp,?_⟩,fun k=>?_⟩
 ·rw [Nat.zero_add,cell_of_row _ w.heap.size k _ 25 _ (heap_alloc_new w _)]
  match k,hk with
  | 0,_=>rfl
  | 1,_=>rfl
 ·match k with
  | 0=>exact hx
  | 1=>exact hy
  | k+2=>simp [U64]
open Go.RowKit
def HN (h:Int)(N:Nat):Prop:=(h=0∧N=1)∨(h=1∧N=2)∨(h=2∧N=4)∨(h=3∧N=8)∨(h=4∧N=16)∨(h=5∧N=32)
theorem HN.of {h:Int}(h0:0≤h)(h5:h≤5):∃ N,HN h N:=by
 unfold HN
 have:h=0∨h=1∨h=2∨h=3∨h=4∨h=5:=by omega
 rcases this with rfl | rfl | rfl | rfl | rfl | rfl
 ·exact ⟨1,by omega⟩
 ·exact ⟨2,by omega⟩
 ·exact ⟨4,by omega⟩
 ·exact ⟨8,by omega⟩
 ·exact ⟨16,by omega⟩
 ·exact ⟨32,by omega⟩
theorem HN.le {h:Int}{N:Nat}(hn:HN h N):1≤N∧N≤32:=by unfold HN at hn; omega
theorem HN.sh {h:Int}{N:Nat}(hn:HN h N):wrap64 ((2:Int) ^ h.toNat)=(N:Int):=by
 unfold HN at hn
 rcases hn with ⟨rfl,rfl⟩ | ⟨rfl,rfl⟩ | ⟨rfl,rfl⟩ | ⟨rfl,rfl⟩ | ⟨rfl,rfl⟩ | ⟨rfl,rfl⟩ <;> decide +kernel
open Go.ChangeShapes Go.WideShapes Go.ChangeAt Go.RowKit
def OpensP (y:PT)(cs:List Value):Prop:=cs = [.int .i64 y.attr,.string y.val]∧y.val.size≤9223372036854775807
set_option maxRecDepth 20000 in
theorem open_part {H:Type}{enc:TypeId × Value→H}{W:World}{fuel:Nat}{cs:List Value}{x:DataW H × List MemPlace}(h:DataW.trod enc Tryz.prog W 0 (fun _=>true) true fuel 171 cs=some x):∃ y,OpensP y cs:=by
 obtain ⟨xs,m,rfl,_,hl,hxl,hf⟩:=DataW.trod_struct Tryz.underlying171 h
 have hl2:cs.length=2:=hl.trans (by kernel_rfl)
 have hx2:xs.length=2:=hxl
 obtain ⟨c0,c1,rfl⟩:∃ c0 c1,cs = [c0,c1]:=by
  match cs,hl2 with
  | [c0,c1],_=>exact ⟨c0,c1,rfl⟩
 obtain ⟨x0,x1,rfl⟩:∃ c0 c1,xs = [c0,c1]:=by
  match xs,hx2 with
  | [c0,c1],_=>exact ⟨c0,c1,rfl⟩
 have e1:Tryz.prog.cellsOf 2=1:=by kernel_rfl
 have e2:Tryz.prog.cellsOf 9=1:=by kernel_rfl
 have f0:DataW.trod enc Tryz.prog W 0 (fun _=>true) true m 2 ((([c0,c1]:List Value).drop 0).take (Tryz.prog.cellsOf 2))=some x0:=hf 0 _ rfl
 rw [e1] at f0
 have f1:DataW.trod enc Tryz.prog W 0 (fun _=>true) true m 9 ((([c0,c1]:List Value).drop 1).take (Tryz.prog.cellsOf 9))=some x1:=hf 1 _ rfl
 rw [e2] at f1
 obtain ⟨n0,h0,_,_⟩:=DataW.trod_int Tryz.underlying2 f0
 obtain ⟨s1,h1,_,hs⟩:=DataW.trod_string Tryz.underlying9 f1
 simp at h0 h1
 subst h0 h1
 exact ⟨⟨n0,s1⟩,rfl,by unfold maxLen at hs; show s1.size≤_; omega⟩
set_option maxRecDepth 20000 in
theorem open_parts {H:Type}{enc:TypeId × Value→H}{W:World}{fuel:Nat}{cs:List Value}{x:DataW H × List MemPlace}(h:DataW.trod enc Tryz.prog W 0 (fun _=>true) true fuel 22 cs=some x):∃ a n c xs,cs = [.slice a n c]∧Pts W a n xs:=by
 rcases DataW.trod_slice Tryz.underlying22 h with ⟨rfl,_⟩ | ⟨a,len,cap,elems,rest,n,rfl,rfl,_,_,hl,hm,hlen,hel,_,_⟩
 ·exact ⟨none,0,0,[],rfl,⟨rfl,by decide,fun k hk=>absurd hk (by omega)⟩⟩
 ·have ec:Tryz.prog.cellsOf 171=2:=by kernel_rfl
  rw [ec] at hel
  have each:∀ i,i<len→∃ y:PT,∃ cs',W.cells? 0 (a.add (i * 2)) 2=some cs'∧OpensP y cs':=by
   intro i hi
   have he:=hel i hi
   rw [List.getElem?_eq_getElem (by omega)] at he
   cases hc:W.cells? 0 (a.add (i * 2)) 2 with
   | none=>rw [hc] at he; cases he
   | some cs' =>
    rw [hc] at he
    obtain ⟨y,hy⟩:=open_part he
    exact ⟨y,cs',rfl,hy⟩
  obtain ⟨y,hy⟩:=Go.Deep.choose_lt each
  have hm':len≤9223372036854775807:=by unfold maxLen at hm; omega
  refine ⟨some a,len,cap,(List.range len).map y,rfl,⟨by simp,hm',fun k hk=>?_⟩⟩
  obtain ⟨cs',hcs,rfl,hnk⟩:=hy k hk
  obtain ⟨_,_,hcell⟩:=World.cells?_some hcs
  obtain ⟨b,off,spot⟩:=a
  have hs:spot=none:=by
   obtain ⟨cs0,hcs0,_⟩:=hy 0 (by omega)
   obtain ⟨_,hl0,hcell0⟩:=World.cells?_some hcs0
   have h00:=hcell0 0 (by omega)
   rw [List.getElem?_eq_getElem (by omega)] at h00
   simpa [Addr.add] using World.cell?_spot h00
  subst hs
  have ey:((List.range len).map y).getD k default=y k:=by simp [hk]
  rw [ey]
  have cc:∀ j,j<2→W.cell? ⟨b,off+k * 2+j,none⟩ = [Value.int .i64 (y k).attr,.string (y k).val][j]?:=by
   intro j hj
   have:=hcell j hj
   rw [Addr.add_lit,Addr.add_lit] at this
   exact this
  exact ⟨b,off,rfl,World.block_lt_of_cell? W _ (cc 0 (by omega)),⟨cc 0 (by omega),cc 1 (by omega)⟩,hnk⟩
set_option maxRecDepth 20000 in
theorem open_name {H:Type}{enc:TypeId × Value→H}{W:World}{fuel:Nat}{cs:List Value}{x:DataW H × List MemPlace}(h:DataW.trod enc Tryz.prog W 0 (fun _=>true) true fuel 24 cs=some x):∃ a n c xs,cs = [.slice a n c]∧Pts W a n xs:=by
 obtain ⟨xs,m,rfl,_,hl,hxl,hf⟩:=DataW.trod_struct Tryz.underlying24 h
 have hl2:cs.length=1:=hl.trans (by kernel_rfl)
 have hx2:xs.length=1:=hxl
 obtain ⟨c0,rfl⟩:∃ c0,cs = [c0]:=by
  match cs,hl2 with
  | [c0],_=>exact ⟨c0,rfl⟩
 obtain ⟨x0,rfl⟩:∃ c0,xs = [c0]:=by
  match xs,hx2 with
  | [c0],_=>exact ⟨c0,rfl⟩
 have e1:Tryz.prog.cellsOf 22=1:=by kernel_rfl
 have f0:DataW.trod enc Tryz.prog W 0 (fun _=>true) true m 22 ((([c0]:List Value).drop 0).take (Tryz.prog.cellsOf 22))=some x0:=hf 0 _ rfl
 rw [e1] at f0
 exact open_parts f0
open Go.ChangeShapes Go.WideShapes Go.ChangeAt Go.RowKit
set_option maxRecDepth 20000 in
theorem open_gen {H:Type}{enc:TypeId × Value→H}{W:World}{fuel:Nat}{cs:List Value}{x:DataW H × List MemPlace}(h:DataW.trod enc Tryz.prog W 0 (fun _=>true) true fuel 105 cs=some x) :
  ∃ g:GT,∃ a n c xs,cs = [.int .i64 g.kind,.string g.text,.int .i64 g.addr,.int .i64 g.bits,.slice a n c]∧Pts W a n xs∧g.text.size≤9223372036854775807:=by
 obtain ⟨xs,m,rfl,_,hl,hxl,hf⟩:=DataW.trod_struct Tryz.underlying105 h
 have hl2:cs.length=5:=hl.trans (by kernel_rfl)
 have hx2:xs.length=5:=hxl
 obtain ⟨c0,c1,c2,c3,c4,rfl⟩:∃ c0 c1 c2 c3 c4,cs = [c0,c1,c2,c3,c4]:=by
  match cs,hl2 with
  | [c0,c1,c2,c3,c4],_=>exact ⟨c0,c1,c2,c3,c4,rfl⟩
 obtain ⟨x0,x1,x2,x3,x4,rfl⟩:∃ c0 c1 c2 c3 c4,xs = [c0,c1,c2,c3,c4]:=by
  match xs,hx2 with
  | [c0,c1,c2,c3,c4],_=>exact ⟨c0,c1,c2,c3,c4,rfl⟩
 have e1:Tryz.prog.cellsOf 2=1:=by kernel_rfl
 have e2:Tryz.prog.cellsOf 9=1:=by kernel_rfl
 have e3:Tryz.prog.cellsOf 24=1:=by kernel_rfl
 have f0:DataW.trod enc Tryz.prog W 0 (fun _=>true) true m 2 ((([c0,c1,c2,c3,c4]:List Value).drop 0).take (Tryz.prog.cellsOf 2))=some x0:=hf 0 _ rfl
 have f1:DataW.trod enc Tryz.prog W 0 (fun _=>true) true m 9 ((([c0,c1,c2,c3,c4]:List Value).drop 1).take (Tryz.prog.cellsOf 9))=some x1:=hf 1 _ rfl
 have f2:DataW.trod enc Tryz.prog W 0 (fun _=>true) true m 2 ((([c0,c1,c2,c3,c4]:List Value).drop 2).take (Tryz.prog.cellsOf 2))=some x2:=hf 2 _ rfl
 have f3:DataW.trod enc Tryz.prog W 0 (fun _=>true) true m 2 ((([c0,c1,c2,c3,c4]:List Value).drop 3).take (Tryz.prog.cellsOf 2))=some x3:=hf 3 _ rfl
 have f4:DataW.trod enc Tryz.prog W 0 (fun _=>true) true m 24 ((([c0,c1,c2,c3,c4]:List Value).drop 4).take (Tryz.prog.cellsOf 24))=some x4:=hf 4 _ rfl
 rw [e1] at f0 f2 f3
 rw [e2] at f1
 rw [e3] at f4
 obtain ⟨n0,h0,_,_⟩:=DataW.trod_int Tryz.underlying2 f0
 obtain ⟨s1,h1,_,hs⟩:=DataW.trod_string Tryz.underlying9 f1
 obtain ⟨n2,h2,_,_⟩:=DataW.trod_int Tryz.underlying2 f2
 obtain ⟨n3,h3,_,_⟩:=DataW.trod_int Tryz.underlying2 f3
 obtain ⟨a,n,c,ys,h4,hp⟩:=open_name f4
 simp at h0 h1 h2 h3 h4
 subst h0 h1 h2 h3 h4
 exact ⟨⟨n0,s1,n2,n3⟩,a,n,c,ys,rfl,hp,by unfold maxLen at hs; show s1.size≤_; omega⟩
open Go.ChangeShapes Go.WideShapes Go.ChangeAt Go.RowKit
def OpensE (W:World)(y:Option Addr × Nat × Nat × GE)(cs:List Value):Prop:=cs = [.int .i64 y.2.2.2.g.kind,.string y.2.2.2.g.text,.int .i64 y.2.2.2.g.addr,.int .i64 y.2.2.2.g.bits,.slice y.1 y.2.1 y.2.2.1]∧Pts W y.1 y.2.1 y.2.2.2.parts∧y.2.2.2.g.text.size≤9223372036854775807
set_option maxRecDepth 20000 in
theorem open_gens {H:Type}{enc:TypeId × Value→H}{W:World}{fuel:Nat}{cs:List Value}{x:DataW H × List MemPlace}(h:DataW.trod enc Tryz.prog W 0 (fun _=>true) true fuel 28 cs=some x):∃ a n c xs,cs = [.slice a n c]∧Ges W a n xs:=by
 rcases DataW.trod_slice Tryz.underlying28 h with ⟨rfl,_⟩ | ⟨a,len,cap,elems,rest,n,rfl,rfl,_,_,hl,hm,hlen,hel,_,_⟩
 ·exact ⟨none,0,0,[],rfl,⟨rfl,by decide,fun k hk=>absurd hk (by omega)⟩⟩
 ·have ec:Tryz.prog.cellsOf 105=5:=by kernel_rfl
  rw [ec] at hel
  have each:∀ i,i<len→∃ y:Option Addr × Nat × Nat × GE,∃ cs',W.cells? 0 (a.add (i * 5)) 5=some cs'∧OpensE W y cs':=by
   intro i hi
   have he:=hel i hi
   rw [List.getElem?_eq_getElem (by omega)] at he
   cases hc:W.cells? 0 (a.add (i * 5)) 5 with
   | none=>rw [hc] at he; cases he
   | some cs' =>
    rw [hc] at he
    obtain ⟨g,a1,n1,c1,ps,hcs,hp,hs⟩:=open_gen he
    exact ⟨(a1,n1,c1,⟨g,ps⟩),cs',rfl,hcs,hp,hs⟩
  obtain ⟨y,hy⟩:=Go.Deep.choose_lt each
  have hm':len≤9223372036854775807:=by unfold maxLen at hm; omega
  refine ⟨some a,len,cap,(List.range len).map (fun i=>(y i).2.2.2),rfl,⟨by simp,hm',fun k hk=>?_⟩⟩
  obtain ⟨cs',hcs,rfl,hnk,hsk⟩:=hy k hk
  obtain ⟨_,_,hcell⟩:=World.cells?_some hcs
  obtain ⟨b,off,spot⟩:=a
  have hs:spot=none:=by
   obtain ⟨cs0,hcs0,_⟩:=hy 0 (by omega)
   obtain ⟨_,hl0,hcell0⟩:=World.cells?_some hcs0
   have h00:=hcell0 0 (by omega)
   rw [List.getElem?_eq_getElem (by omega)] at h00
   simpa [Addr.add] using World.cell?_spot h00
  subst hs
  have ey:((List.range len).map (fun i=>(y i).2.2.2)).getD k default=(y k).2.2.2:=by simp [hk]
  rw [ey]
  have cc:∀ j,j<5→W.cell? ⟨b,off+k * 5+j,none⟩ = [Value.int .i64 (y k).2.2.2.g.kind,.string (y k).2.2.2.g.text,.int .i64 (y k).2.2.2.g.addr,.int .i64 (y k).2.2.2.g.bits,.slice (y k).1 (y k).2.1 (y k).2.2.1][j]?:=by
   intro j hj
   have:=hcell j hj
   rw [Addr.add_lit,Addr.add_lit] at this
   exact this
  exact ⟨b,off,_,_,_,rfl,World.block_lt_of_cell? W _ (cc 0 (by omega)),⟨cc 0 (by omega),cc 1 (by omega),cc 2 (by omega),cc 3 (by omega),cc 4 (by omega)⟩,hnk,hsk⟩
set_option maxRecDepth 20000 in
theorem open_pub {H:Type}{enc:TypeId × Value→H}{W:World}{fuel:Nat}{cs:List Value}{x:DataW H × List MemPlace}(h:DataW.trod enc Tryz.prog W 0 (fun _=>true) true fuel 27 cs=some x):∃ s y k:Int,cs = [.int .i64 s,.int .u64 y,.int .i64 k]∧U64 y:=by
 obtain ⟨xs,m,rfl,_,hl,hxl,hf⟩:=DataW.trod_struct Tryz.underlying27 h
 have hl2:cs.length=3:=hl.trans (by kernel_rfl)
 have hx2:xs.length=3:=hxl
 obtain ⟨c0,c1,c2,rfl⟩:∃ c0 c1 c2,cs = [c0,c1,c2]:=by
  match cs,hl2 with
  | [c0,c1,c2],_=>exact ⟨c0,c1,c2,rfl⟩
 obtain ⟨x0,x1,x2,rfl⟩:∃ y0 y1 y2,xs = [y0,y1,y2]:=by
  match xs,hx2 with
  | [y0,y1,y2],_=>exact ⟨y0,y1,y2,rfl⟩
 have e0:Tryz.prog.cellsOf 2=1:=by kernel_rfl
 have f0:DataW.trod enc Tryz.prog W 0 (fun _=>true) true m 2 ((([c0,c1,c2]:List Value).drop 0).take (Tryz.prog.cellsOf 2))=some x0:=hf 0 _ rfl
 rw [e0] at f0
 have e1:Tryz.prog.cellsOf 25=1:=by kernel_rfl
 have f1:DataW.trod enc Tryz.prog W 0 (fun _=>true) true m 25 ((([c0,c1,c2]:List Value).drop 1).take (Tryz.prog.cellsOf 25))=some x1:=hf 1 _ rfl
 rw [e1] at f1
 have e2:Tryz.prog.cellsOf 2=1:=by kernel_rfl
 have f2:DataW.trod enc Tryz.prog W 0 (fun _=>true) true m 2 ((([c0,c1,c2]:List Value).drop 2).take (Tryz.prog.cellsOf 2))=some x2:=hf 2 _ rfl
 rw [e2] at f2
 obtain ⟨n0,h0,_,_⟩:=DataW.trod_int Tryz.underlying2 f0
 obtain ⟨n1,h1,_,hw⟩:=DataW.trod_int Tryz.underlying25 f1
 obtain ⟨n2,h2,_,_⟩:=DataW.trod_int Tryz.underlying2 f2
 simp at h0 h1 h2
 subst h0 h1 h2
 exact ⟨n0,n1,n2,rfl,bounds_u64 hw⟩
end Go.Proofs.YtmdfbnlgfhjnoaaGreatDoor
