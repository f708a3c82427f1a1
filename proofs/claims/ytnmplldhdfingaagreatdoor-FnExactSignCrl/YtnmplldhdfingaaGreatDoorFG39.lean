import Derived.Test.YtnmplldhdfingaaGreatDoorFG35
set_option maxRecDepth 10000
set_option maxHeartbeats 8000000
set_option linter.unusedVariables false
namespace Go.Proofs.YtnmplldhdfingaaGreatDoor
open Go.RowKit Go.Sort
def En (r:Nat)(x:It)(m:Nat):Prop:=∃ l,enc r x=some l∧l.length≤m
theorem En.le {r:Nat}{x:It}{m m':Nat}(h:En r x m)(hm:m≤m'):En r x m':=by
 obtain ⟨l,h1,h2⟩:=h
 exact ⟨l,h1,Nat.le_trans h2 hm⟩
theorem lenL_3 (n:Nat)(h:n<65536):(lenL n).length≤3:=by
 unfold lenL
 split
 ·simp
 ·split
  ·simp
  ·simp
theorem lenL_1 (n:Nat)(h:n<128):(lenL n).length≤1:=by
 unfold lenL
 rw [if_pos h]
 simp
theorem head_len (cls tag:Int)(co:Bool)(bs:List Int)(ks:List It)(n k:Nat)(h1:tag≤30)(hn:(lenL n).length≤k):(headL (.mk cls tag co bs ks) n).length≤k+1:=by
 unfold headL
 rw [List.length_append,if_pos (show (It.mk cls tag co bs ks).tag<31 by show tag<31; omega)]
 simp
 omega
def KL (r:Nat)(ks:List It)(m:Nat):Prop:=∀ acc:List Int,acc.length+m≤50000→∃ l,encK (enc r) acc ks=some l∧l.length≤acc.length+m
theorem KL.nil (r:Nat):KL r [] 0:=fun acc h=>⟨acc,rfl,by omega⟩
theorem KL.cons {r:Nat}{x:It}{xs:List It}{L m:Nat}(h:En r x L)(k:KL r xs m):KL r (x::xs) (L+m):=by
 intro acc hl
 obtain ⟨p,hp,hpl⟩:=h
 obtain ⟨l,h1,h2⟩:=k (acc++p) (by rw [List.length_append]; omega)
 refine ⟨l,?_,?_⟩
 ·rw [encK,hp]
  simp only
  rw [if_pos (by omega)]
  exact h1
 ·rw [List.length_append] at h2
  omega
theorem KL.le {r:Nat}{ks:List It}{m m':Nat}(h:KL r ks m)(hm:m≤m'):KL r ks m':=fun acc ha=>by
 obtain ⟨l,h1,h2⟩:=h acc (by omega)
 exact ⟨l,h1,by omega⟩
theorem KL.map {α:Type}{r:Nat}{f:α→It}{L:Nat}:∀ {xs:List α},(∀ x∈xs,En r (f x) L)→KL r (xs.map f) (xs.length * L)
 | [],_=>by simpa using KL.nil r
 | x::xs,h=>by
  have:=KL.cons (h x (List.mem_cons_self ..)) (KL.map (xs:=xs) (fun y hy=>h y (List.mem_cons_of_mem _ hy)))
  have e:(x::xs).length * L=L+xs.length * L:=by rw [List.length_cons,Nat.succ_mul]; omega
  rw [e]
  exact this
theorem En.box {r:Nat}{cls tag:Int}{ks:List It}{m:Nat}(hc:cls=0∨cls=1)(h0:1≤tag)(h1:tag≤30)(k:KL r ks m)(hm:m≤49990):En (r+1) (.mk cls tag true [] ks) (m+4):=by
 have hs:It.shape (.mk cls tag true [] ks)=true:=by
  unfold It.shape
  simp [It.cls,It.tag,It.cons,It.body]
  omega
 obtain ⟨l,e1,e2⟩:=k [] (by simp; omega)
 simp only [List.length_nil,Nat.zero_add] at e2
 have hi:innerBy (enc r) (.mk cls tag true [] ks)=some l:=by
  unfold innerBy
  rw [if_pos (show (It.mk cls tag true [] ks).cons=true from rfl)]
  exact e1
 have hh:=head_len cls tag true [] ks l.length 3 h1 (lenL_3 _ (by omega))
 exact ⟨_,enc_some r _ _ hs hi (by rw [List.length_append]; omega),by rw [List.length_append]; omega⟩
theorem leaf_en {r:Nat}{t:Int}{bs:List Int}{k:Nat}(h0:1≤t)(h1:t≤30)(hL:bs.length+(k+1)≤50000)(hk:(lenL bs.length).length≤k):En (r+1) (.mk 0 t false bs []) (bs.length+(k+1)):=by
 have hs:It.shape (.mk 0 t false bs [])=true:=by
  unfold It.shape
  simp [It.cls,It.tag,It.cons,It.kids]
  omega
 have hi:innerBy (enc r) (.mk 0 t false bs [])=some bs:=by
  unfold innerBy
  rw [if_neg (by simp [It.cons]),if_pos (by simp [It.body]; omega)]
  rfl
 have hh:=head_len 0 t false bs [] bs.length k h1 hk
 exact ⟨_,enc_some r _ bs hs hi (by rw [List.length_append]; omega),by rw [List.length_append]; omega⟩
theorem En.leaf2 {r:Nat}{t:Int}{bs:List Int}{L:Nat}(h0:1≤t)(h1:t≤30)(hb:bs.length≤L)(hL:L<128):En (r+1) (.mk 0 t false bs []) (L+2) :=
 (leaf_en h0 h1 (by omega) (lenL_1 _ (by omega))).le (by omega)
theorem num_en (r:Nat)(n:Int):En (r+1) (numI n) 10:=En.leaf2 (L:=8) (by decide) (by decide) (by rw [wbL_len]; exact (wsz_bd n).2) (by decide)
theorem flg_en (r:Nat)(b:Bool):En (r+1) (flgI b) 3:=En.leaf2 (L:=1) (by decide) (by decide) (by simp) (by decide)
theorem par_en (r:Nat)(x:PT)(h:x.val.size≤60):En (r+2) (parI x) 76 :=
 En.box (m:=10+(62+0)) (.inl rfl) (by decide) (by decide) (.cons (num_en r _) (.cons (En.leaf2 (L:=60) (by decide) (by decide) (by rw [bytesOf_len]; exact h) (by decide)) (.nil _))) (by decide)
theorem mem_getD {α:Type}{d x:α}{xs:List α}(h:x∈xs):∃ k,k<xs.length∧xs.getD k d=x:=by
 obtain ⟨k,hk,e⟩:=List.mem_iff_getElem.1 h
 exact ⟨k,hk,by simp [hk,e]⟩
theorem nam_en (r:Nat)(xs:List PT)(h:nameP xs):En (r+4) (namI xs) 616:=by
 have h1:KL (r+2) (xs.map parI) 608:=(KL.map (L:=76) (fun x hx=>by
  obtain ⟨k,hk,e⟩:=mem_getD (d:=default) hx
  exact par_en r x (by rw [← e]; exact (h.2 k hk).2.1))).le (by have:=h.1; omega)
 exact En.box (m:=612+0) (.inl rfl) (by decide) (by decide) (.cons (En.box (m:=608) (.inl rfl) (by decide) (by decide) h1 (by decide)) (.nil _)) (by decide)
theorem name_noneU {xs:List PT}(h:xs = []):nameP xs:=by
 subst h
 exact ⟨by simp,fun k hk=>by simp at hk⟩
def goI (y:GP):It:=strI [namI y.parts,numI y.ser,numI y.tm,numI y.rs]
def crK (x:CP):List It:=[namI x.parts,numI x.num,numI x.base,numI x.tm,numI x.next,numI x.scope,flgI x.ind,lstI (x.ents.map goI)]
theorem go_en (r:Nat)(y:GP)(h:nameP y.parts):En (r+5) (goI y) 650 :=
 (En.box (m:=616+(10+(10+(10+0)))) (.inl rfl) (by decide) (by decide) (.cons (nam_en r _ h) (.cons (num_en _ _) (.cons (num_en _ _) (.cons (num_en _ _) (.nil _))))) (by decide)).le (by decide)
theorem ent_name {x:CP}{y:GP}(h:entP x y):nameP y.parts:=by
 obtain ⟨_,_,_,h1,h2,_⟩:=h
 cases hi:x.ind with
 | true=>exact (h1 hi).1
 | false=>exact name_noneU (h2 hi)
theorem crl_en (r:Nat)(x:CP)(h:crlP x):En (r+7) (boxI 4 (crK x)) 39677:=by
 have hl:x.ents.length≤60:=h.1.2.2.2.2.2.2.2.1
 have he:En (r+6) (lstI (x.ents.map goI)) 39004:=En.box (m:=39000) (.inl rfl) (by decide) (by decide) ((KL.map (L:=650) (fun y hy=>by
  obtain ⟨k,hk,e⟩:=mem_getD (d:=default) hy
  exact go_en r y (by rw [← e]; exact ent_name (h.2.1 k hk)))).le (by omega)) (by decide)
 have N:∀ n,En (r+6) (numI n) 10:=fun n=>num_en _ n
 refine En.box (m:=39673) (.inr rfl) (by decide) (by decide) ?_ (by decide)
 refine KL.le (m:=616+(10+(10+(10+(10+(10+(3+(39004+0)))))))) ?_ (by omega)
 exact (.cons (nam_en _ _ h.1.1.1) (.cons (N _) (.cons (N _) (.cons (N _) (.cons (N _) (.cons (N _) (.cons (flg_en _ _) (.cons he (.nil _)))))))))
theorem en_getD {r:Nat}{x:It}{m:Nat}(h:En r x m):enc r x=some ((enc r x).getD [])∧((enc r x).getD []).length≤m:=by
 obtain ⟨l,h1,h2⟩:=h
 rw [h1]
 exact ⟨rfl,h2⟩
def crBody (x:CP):List Int:=(enc 12 (boxI 4 (crK x))).getD []
theorem crBody_enc {x:CP}(h:crlP x):enc 12 (boxI 4 (crK x))=some (crBody x)∧(crBody x).length≤39677:=en_getD (crl_en 5 x h)
theorem w64_of {n:Int}(h0 : -9223372036854775808≤n)(h1:n≤9223372036854775807):W64 n:=⟨h0,h1⟩
theorem nameW {xs:List PT}(h:nameP xs):∀ k,k<xs.length→W64 (xs.getD k default).attr:=fun k hk=>by have:=(h.2 k hk).1; exact w64_of (by omega) (by omega)
def GoW (y:GP):Prop:=(W64 y.ser∧W64 y.tm∧W64 y.rs)∧(∀ j,j<y.parts.length→W64 (y.parts.getD j default).attr)∧y.parts.length≤1000
def GoS (y:GP):Prop:=y.parts.length≤1000∧∀ k,k<y.parts.length→(y.parts.getD k default).val.size≤1000
theorem rea_bd {x:CP}{r:Int}(h:reaP x r):1≤r∧r≤7:=by
 rcases h with ⟨h1,_⟩ | ⟨h1,_⟩ <;> omega
theorem goW_of {x:CP}{y:GP}(h:entP x y):GoW y:=by
 have hn:=ent_name h
 obtain ⟨h1,h2,_,_,_,h3⟩:=h
 have h4:=rea_bd h3
 unfold timeP at h2
 exact ⟨⟨w64_of (by omega) (by omega),w64_of (by omega) (by omega),w64_of (by omega) (by omega)⟩,nameW hn,by have:=hn.1; omega⟩
theorem goS_of {x:CP}{y:GP}(h:entP x y):GoS y:=by
 have hn:=ent_name h
 exact ⟨by have:=hn.1; omega,fun k hk=>by have:=(hn.2 k hk).2.1; omega⟩
open Go.RowKit
theorem own_noneC (B:Nat)(w:World):Own B w none 0 0 []:=⟨World.ownsRow_nil w B 5 1,by simp⟩
theorem growB_nil (n:Nat)(w:World)(h0:0<n)(hn:n≤100000) :
  Calls Tryz.prog 127 #[.slice none 0 0,.int .i64 n] w fun e w'=>∃ a c,e=.returned (.slice a 0 c)∧Own w.heap.size w' a 0 c []∧Below w.heap.size w w':=by
 obtain ⟨i0,hi,hz0,hz1,hz2⟩:=info_parts Tryz.info5
 have hr:=Lib.run_append_nil_zeros (P:=Tryz.prog) w 26 3 26 5 i0 (.int .u8 0) .i64 .i64 Tryz.underlying26 Tryz.underlying3 hi hz0 n h0 (by omega) (by omega) (by rw [hz2]; omega)
 obtain ⟨C,hC⟩:∃ C,C=grownCap w n 0 5:=⟨_,rfl⟩
 rw [← hC] at hr
 obtain ⟨w1,hw1⟩:∃ w1,w1=w.drew.alloc (.cells (Builtin.zeroCells (Value.int .u8 0).cells n++Builtin.zeroCells (Value.int .u8 0).cells (C - n)) 5):=⟨_,rfl⟩
 rw [← hw1] at hr
 have hgc:n≤C∧C≤maxLen:=by rw [hC]; exact ⟨grownCap_ge _ _ _ _ ,grownCap_le_maxLen _ _ _ _ (by unfold maxLen; omega)⟩
 have hown:Own w.heap.size w1 (some ⟨w.heap.size,0,none⟩) 0 C []:=by
  refine ⟨⟨rfl,.inr ⟨w.heap.size,C,_,rfl,Nat.le_refl _,by rw [hw1]; exact heap_alloc_new w.drew _,Nat.zero_le _,hgc.2,?_,rfl⟩⟩,by simp⟩
  simp [Builtin.zeroCells,Value.cells]
  omega
 have hb1:Below w.heap.size w w1:=by rw [hw1]; exact ((Below.refl _ _).drew).alloc (Nat.le_refl _) _
 have HW:Hid (_=_):=hw1
 have HC:Hid (_=_):=hC
 clear hgc hw1 hC
 have HR:Hid (_=_):=hr
 clear hr
 go_enter Tryz.func127,Tryz.ntmps127
 go_wp2_with (first | (at_builtin; refine Lib.wpList_append_run _ rfl _ _ _ _ rfl _ _ rfl rfl _ _ HR.out ?_))
 go_ret
 exact ⟨_,_,rfl,hown,hb1⟩
theorem growB_zero (w:World) :
  Calls Tryz.prog 127 #[.slice none 0 0,.int .i64 0] w fun e w'=>∃ a c,e=.returned (.slice a 0 c)∧Own w.heap.size w' a 0 c []∧Below w.heap.size w w':=by
 go_enter Tryz.func127,Tryz.ntmps127
 go_wp2
 go_ret
 exact ⟨none,0,rfl,own_noneC _ _,Below.refl _ _⟩
theorem growB_any (n:Nat)(w:World)(hn:n≤100000) :
  Calls Tryz.prog 127 #[.slice none 0 0,.int .i64 n] w fun e w'=>∃ a c,e=.returned (.slice a 0 c)∧Own w.heap.size w' a 0 c []∧Below w.heap.size w w':=by
 by_cases h:0<n
 ·exact growB_nil n w h hn
 ·obtain rfl:n=0:=by omega
  exact growB_zero w
theorem take_nextR (bss:List (List Int))(k:Nat)(hk:k<bss.length):bss.take (k+1)=bss.take k++[bss.getD k []]:=by
 rw [List.take_add_one]
 simp [hk]
theorem flat_next (bss:List (List Int))(k:Nat)(hk:k<bss.length):(bss.take (k+1)).flatten=(bss.take k).flatten++bss.getD k []:=by
 rw [take_nextR bss k hk]
 simp
theorem total_flat (bss:List (List Int)):total bss=bss.flatten.length:=by simp [total,List.length_flatten]
theorem concatB_any (a:Option Addr)(n c:Nat)(bss:List (List Int))(w:World)(h:Rows2 w a n bss)(hn:n≤100000)(ht:total bss≤50000) :
  Calls Tryz.prog 106 #[.slice a n c] w fun e w'=>∃ a' c',e=.returned (.slice a' bss.flatten.length c')∧Own w.heap.size w' a' bss.flatten.length c' bss.flatten∧Below w.heap.size w w':=by
 obtain ⟨i0,hi,hz0,hz1,hz2⟩:=info_parts Tryz.info5
 have H0:Hid (Rows2 w a n bss):=h
 have HL:Hid (bss.length=n):=h.len
 have HT:Hid (total bss≤50000):=ht
 clear h ht
 go_enter Tryz.func106,Tryz.ntmps106
 go_wp2
 go_loopw [3,11] (fun sz i wr=>∃ (k s:Nat),k≤n∧i=.int .i64 k∧sz=.int .i64 s∧Hid (s=total (bss.take k))∧Below w.heap.size w wr) (fun _ i _=>n - (intOf i).toNat)
 case atStart=>exact ⟨0,0,Nat.zero_le _,rfl,rfl,by show _=_; simp [total],Below.refl _ _⟩
 case round =>
  obtain ⟨k,s,hk,rfl,rfl,HS,hbr⟩:=hrel
  have hws:=hbr.size
  by_cases hlt:k<n
  ·obtain ⟨b,off,rfl,hlb,ak,nk,ck,hc,hrk,hnk⟩:=H0.out.get k hlt
   have hcr:wr.cell? ⟨b,off+k,none⟩=some (.slice ak nk ck):=(hbr.cell (p:=⟨b,off+k,none⟩) hlb).trans hc
   have hkl:k<bss.length:=by rw [HL.out]; exact hlt
   have HN:Hid (s+nk=total (bss.take (k+1))):=by show _=_; rw [total_split bss k hkl,HS.out,hrk.len]
   have hsn:s+nk≤50000:=by have:=HN.out; have:=total_take bss (k+1); have:=HT.out; omega
   have zz:¬ ((s:Int)+(nk:Int)<0):=by omega
   have hkni:(k:Int)<(n:Int):=by omega
   have hbw:b<wr.heap.size:=by omega
   clear hc hrk hnk
   go_wp2
   go_roundw
   case rel=>exact ⟨k+1,s+nk,by omega,by go_num,by go_num,HN,hbr⟩
   case measure=>simp [intOf]; omega
  ·obtain rfl:k=n:=by omega
   have HS2:Hid (s=total bss):=by show _=_; rw [HS.out,List.take_of_length_le (by rw [HL.out]; exact Nat.le_refl _)]
   have hs5:s≤50000:=by have:=HS2.out; have:=HT.out; omega
   obtain ⟨w1,hw1⟩:∃ w1,w1=wr:=⟨_,rfl⟩
   subst hw1
   go_wp2_with fail
   refine (growB_any s _ (by omega)).mono ?_
   rintro e w2 ⟨a2,c2,rfl,ho2,hb2⟩
   have HO2:Hid (Own w.heap.size w2 a2 0 c2 []):=ho2.mono hws
   have hbz:=hbr.trans (hb2.mono hws)
   clear ho2 HS hbr
   go_wp2
   go_loopw [6,27] (fun o i wr=>∃ (j m:Nat) (ao:Option Addr) (cc:Nat),j≤k∧i=.int .i64 j∧o=.slice ao m cc∧Hid (m=(bss.take j).flatten.length)∧Hid (Own w.heap.size wr ao m cc (bss.take j).flatten)∧Below w.heap.size w wr) (fun _ i _=>k - (intOf i).toNat)
   case atStart=>exact ⟨0,0,a2,c2,Nat.zero_le _,rfl,rfl,by show _=_; simp,HO2,hbz⟩
   case round =>
    obtain ⟨j,m,ao,cc,hj,rfl,rfl,HM,HO,hbr⟩:=hrel
    have hws2:=hbr.size
    by_cases hlt2:j<k
    ·obtain ⟨b,off,rfl,hlb,ak,nk,ck,hc,hrk,hnk⟩:=H0.out.get j hlt2
     have hcr:wr.cell? ⟨b,off+j,none⟩=some (.slice ak nk ck):=(hbr.cell (p:=⟨b,off+j,none⟩) hlb).trans hc
     have hkl:j<bss.length:=by rw [HL.out]; exact hlt2
     have HRK:Hid (Row wr ak nk (bss.getD j [])):=hrk.kept hbr
     have HB:Hid (∀ q,0≤(bss.getD j []).getD q 0∧(bss.getD j []).getD q 0≤255):=hrk.byte
     have HE:Hid ((bss.take (j+1)).flatten=(bss.take j).flatten++bss.getD j []):=flat_next bss j hkl
     have HM2:Hid (m+nk=(bss.take (j+1)).flatten.length):=by show _=_; rw [HE.out,List.length_append,← HM.out,hrk.len]
     have hmn:m+nk≤50000:=by have h1:=HM2.out; rw [← total_flat] at h1; have:=total_take bss (j+1); have:=HT.out; omega
     have hkni:(j:Int)<(k:Int):=by omega
     have hbw:b<wr.heap.size:=by omega
     clear hc hrk
     go_wp2_with (at_builtin; refine wpList_append_row _ rfl _ _ 26 rfl w.heap.size i0 Tryz.underlying26 hi hz0 hz1 hz2 _ _ _ rfl HO.out.row ak nk ck (bss.getD j []) rfl HRK.out hnk (by omega) hws2 ?_; intro v4 w4 hv4 hg4; obtain ⟨a4,c4,rfl,ho4⟩:=own_appended hv4 HO.out.byte HB.out; have hbr4:Below w.heap.size w w4:=below_appended hbr hws2 HO.out.row hg4; have HO4:Hid (Own w.heap.size w4 a4 (m+nk) c4 (bss.take (j+1)).flatten):=(by rw [HE.out]; exact ho4); clear ho4 hv4 hg4)
     go_roundw
     case rel=>exact ⟨j+1,m+nk,a4,c4,by omega,by go_num,rfl,HM2,HO4,hbr4⟩
     case measure=>simp [intOf]; omega
    ·obtain rfl:j=k:=by omega
     have HE:Hid ((bss.take j).flatten=bss.flatten):=by show _=_; rw [List.take_of_length_le (by rw [HL.out]; exact Nat.le_refl _)]
     go_wp2
     go_ret
     exact ⟨ao,cc,by rw [← HE.out,← HM.out]; rfl,by rw [← HE.out,← HM.out]; exact HO.out,hbr⟩
open Go.RowKit Go.Sort
theorem Tryz.infoBs:(Tryz.prog.info? 26).map (fun i=>(i.zero,i.size,i.bytes))=some (some (.slice none 0 0),1,24):=by kernel_rfl
def PzE (w:World)(v:Value)(o:Value)(bs:List Int):Prop:=∃ z m c,o=.slice z m c∧Row w z m bs∧(z=none→c=0)∧∀ q,z=some q→0<m→v.ownBlock≠some q.block
structure PZ (B:Nat)(w:World)(a:Option Addr)(n cap:Nat)(bss:List (List Int)):Prop where
 len:bss.length=n
 row:∃ vs,w.ownsRow B 26 1 (.slice a n cap) n vs∧∀ k,k<n→∃ o,vs[k]? = some o∧PzE w (.slice a n cap) o (bss.getD k [])
theorem PZ.kept {B:Nat}{w w':World}{a:Option Addr}{n cap:Nat}{bss:List (List Int)}(h:PZ B w a n cap bss)(hb:Below w.heap.size w w'):PZ B w' a n cap bss:=by
 obtain ⟨vs,hv,hp⟩:=h.row
 refine ⟨h.len,vs,ownsRow_below hv hb,fun k hk=>?_⟩
 obtain ⟨o,h1,z,m,c,h2,h3,h4,h5⟩:=hp k hk
 exact ⟨o,h1,z,m,c,h2,h3.kept hb,h4,h5⟩
theorem PZ.rows {B:Nat}{w:World}{a:Option Addr}{n cap:Nat}{bss:List (List Int)}(h:PZ B w a n cap bss):Rows2 w a n bss:=by
 obtain ⟨vs,hv,hp⟩:=h.row
 refine ⟨h.len,fun k hk=>?_⟩
 obtain ⟨g,cf,e,_,_⟩:=hv.form (by omega)
 simp only [Value.slice.injEq,true_and] at e
 obtain ⟨rfl,rfl⟩:=e
 obtain ⟨o,h1,z,m,c,rfl,h3,h4,_⟩:=hp k hk
 exact ⟨g,0,rfl,(hv.lt g rfl).2,z,m,c,by rw [Nat.zero_add]; exact (hv.cellAt k (by omega)).trans h1,h3,h4⟩
theorem row_ltU {w:World}{a:Option Addr}{n:Nat}{bs:List Int}(h:Row w a n bs):∀ q,a=some q→0<n→q.block<w.heap.size:=h.toI.lt
theorem row_grownU {w w':World}{a:Option Addr}{n:Nat}{bs:List Int}{v:Option Nat}(h:Row w a n bs)(hne:∀ q,a=some q→0<n→v≠some q.block)(hg:w.grownBy w' v):Row w' a n bs:=by
 have hI:RowI (fun b=>v≠some b) w a n bs:=⟨h,fun q hq h0=>hne q hq h0⟩
 exact (hI.touch (P:=fun b=>v=some b) (fun b h1 h2=>h1 h2) (touchX_g hg (fun k hk=>hk))).row
theorem pz_app {B:Nat}{w w':World}{a:Option Addr}{n cap:Nat}{bss:List (List Int)}{vs:List Value}{z:Option Addr}{m c:Nat}{bs:List Int}{g' c':Nat}(hlen:bss.length=n)(hv:w.ownsRow B 26 1 (.slice a n cap) n vs)(hp:∀ k,k<n→∃ o,vs[k]? = some o∧PzE w (.slice a n cap) o (bss.getD k []))(hr:Row w z m bs)(hn:z=none→c=0)(hne:∀ q,z=some q→0<m→(Value.slice a n cap).ownBlock≠some q.block)(hv':w'.ownsRow B 26 1 (.slice (some ⟨g',0,none⟩) (n+1) c') (n+1) (vs++[.slice z m c]))(hg:w.grownBy w' (Value.slice a n cap).ownBlock)(hl:(Value.slice a n cap).ownBlock=some g'∨g'=w.heap.size):PZ B w' (some ⟨g',0,none⟩) (n+1) c' (bss++[bs]):=by
 have hvl:vs.length=n:=by simpa using hv.1
 have nw:∀ (y:Option Addr) (k:Nat) (ds:List Int),Row w y k ds→(∀ q,y=some q→0<k→(Value.slice a n cap).ownBlock≠some q.block)→∀ q,y=some q→0<k→(Value.slice (some ⟨g',0,none⟩) (n+1) c').ownBlock≠some q.block:=by
  intro y k ds hrow hny q hq hk e
  have e':some g'=some q.block:=e
  rcases hl with h1 | h1
  ·exact hny q hq hk (h1.trans e')
  ·have:=row_ltU hrow q hq hk
   injection e' with e'
   omega
 refine ⟨by simp [hlen],_,hv',fun k hk=>?_⟩
 by_cases hkn:k<n
 ·obtain ⟨o,h1,z1,m1,c1,h2,h3,h4,h5⟩:=hp k hkn
  refine ⟨o,by rw [List.getElem?_append_left (by omega)]; exact h1,z1,m1,c1,h2,?_,h4,nw _ _ _ h3 h5⟩
  rw [List.getD_eq_getElem?_getD,List.getElem?_append_left (by omega),← List.getD_eq_getElem?_getD]
  exact row_grownU h3 h5 hg
 ·obtain rfl:k=n:=by omega
  refine ⟨.slice z m c,by rw [List.getElem?_append_right (by omega),hvl,Nat.sub_self]; rfl,z,m,c,rfl,?_,hn,nw _ _ _ hr hne⟩
  rw [List.getD_eq_getElem?_getD,List.getElem?_append_right (by omega),hlen,Nat.sub_self]
  exact row_grownU hr hne hg
theorem pz_one (w:World)(z:Option Addr)(m c:Nat)(bs:List Int)(hr:Row w z m bs)(hn:z=none→c=0):PZ w.heap.size (w.alloc (.cells #[.slice z m c] 26)) (some ⟨w.heap.size,0,none⟩) 1 1 [bs]:=by
 have hb:Below w.heap.size w (w.alloc (.cells #[.slice z m c] 26)):=(Below.refl _ _).alloc (Nat.le_refl _) _
 refine ⟨rfl,[.slice z m c],World.ownsRow_lit w #[.slice z m c] 1 (Nat.le_refl _) (by decide) rfl,fun k hk=>?_⟩
 obtain rfl:k=0:=by omega
 refine ⟨_,rfl,z,m,c,rfl,hr.kept hb,hn,fun q hq hk e=>?_⟩
 have:=row_ltU hr q hq hk
 have e':some w.heap.size=some q.block:=e
 injection e' with e'
 omega
theorem flat_snoc (bss:List (List Int))(bs:List Int):(bss++[bs]).flatten=bss.flatten++bs:=by simp
theorem headL_pos (x:It)(n:Nat):1≤(headL x n).length:=by
 unfold headL
 rw [List.length_append]
 split
 ·simp
 ·simp
  omega
theorem enc_pos (r:Nat)(x:It)(l:List Int)(h:enc r x=some l):1≤l.length:=by
 cases r with
 | zero=>simp [enc] at h
 | succ r =>
  obtain ⟨_,inner,_,e,_⟩:=enc_parts r x l h
  have:=headL_pos x inner.length
  rw [e,List.length_append]
  omega
theorem encK_num (r:Nat)(xs:List It):∀ acc l,encK (enc r) acc xs=some l→acc.length+xs.length≤l.length:=by
 induction xs with
 | nil=>intro acc l e; simp [encK] at e; subst e; simp
 | cons x xs ih =>
  intro acc l e
  simp only [encK] at e
  split at e
  ·cases e
  ·rename_i p hp
   split at e
   ·have h1:=ih _ _ e
    have h2:=enc_pos r x p hp
    rw [List.length_append] at h1
    simp only [List.length_cons]
    omega
   ·cases e
def LongAt (d:Nat):Prop:=∀ (r:Nat) (x:It) (l:List Int) (ab:Option Addr) (nb cb:Nat) (ak:Option Addr) (nk ck:Nat) (w:World),enc r x=some l→Row w ab nb x.body→(ab=none→cb=0)→Kids d w ak nk x.kids →
  Calls Tryz.prog 65 #[itv x ab nb cb ak nk ck] w fun e w'=>∃ a cap,e=.returned (.slice a l.length cap)∧Own w.heap.size w' a l.length cap l∧Below w.heap.size w w'
theorem longAt_next (d:Nat)(ih:LongAt d):LongAt (d+1):=by
 intro r x l ab nb cb ak nk ck w henc hrow hnil hk
 obtain ⟨i0,hi,hz0,hz1,hz2⟩:=info_parts Tryz.info5
 obtain ⟨j0,hj,hy0,hy1,hy2⟩:=info_parts Tryz.infoBs
 cases r with
 | zero=>simp [enc] at henc
 | succ r =>
  obtain ⟨hsh,inner,hin,hl,hl2⟩:=enc_parts r x l henc
  have hge:=encK_ge _ _ _ _ hin
  have hil:inner.length≤50000:=by rw [hl,List.length_append] at hl2; omega
  have hnb:nb≤50000:=by rw [hrow.len] at hge; omega
  have hnum:=encK_num r x.kids _ _ hin
  have hnk5:nk≤50000:=by have:=hk.1; omega
  have HK:Hid (Kids (d+1) w ak nk x.kids):=hk
  have HL:Hid (x.kids.length=nk):=hk.1
  have hnk:=hk.2.1
  have HI:Hid (encK (enc r) x.body (x.kids.drop 0)=some inner):=by show _=_; rw [List.drop_zero]; exact hin
  have HLL:Hid (l=headL x inner.length++inner):=hl
  have hsb:=shape_bounds hsh
  obtain ⟨w0,hw0⟩:∃ w0,w0=w.alloc (.cells #[.int .i64 x.cls,.int .i64 x.tag,.bool x.cons,.slice ab nb cb,.slice ak nk ck] 94):=⟨_,rfl⟩
  have hbl:Below w.heap.size w w0:=by rw [hw0]; exact (Below.refl _ _).alloc (Nat.le_refl _) _
  have BX0:BoxT 94 w.heap.size w0 x ab nb cb ak nk ck:=by rw [hw0]; exact boxT_new 94 w x ab nb cb ak nk ck
  have hs0:w0.heap.size=w.heap.size+1:=by rw [hw0]; simp
  have hp1:=pz_one w0 ab nb cb x.body (hrow.kept hbl) hnil
  obtain ⟨w1,hw1⟩:∃ w1,w1=w0.alloc (.cells #[.slice ab nb cb] 26):=⟨_,rfl⟩
  rw [← hw1,hs0] at hp1
  have HP1:Hid (PZ (w.heap.size+1) w1 (some ⟨w.heap.size+1,0,none⟩) 1 1 [x.body]):=hp1
  have hb01:Below w0.heap.size w0 w1:=by rw [hw1]; exact (Below.refl _ _).alloc (Nat.le_refl _) _
  have hx1:Hid (BoxT 94 w.heap.size w1 x ab nb cb ak nk ck):=BX0.kept hb01
  have hb1:Below w.heap.size w w1:=hbl.trans (hb01.mono hbl.size)
  have HW:Hid (w1=(w.alloc (.cells #[.int .i64 x.cls,.int .i64 x.tag,.bool x.cons,.slice ab nb cb,.slice ak nk ck] 94)).alloc (.cells #[.slice ab nb cb] 26)):=by show _=_; rw [hw1,hw0]
  obtain ⟨y0,y1,y2,y3,y4⟩:=hx1.out.cells
  have hlt1:w.heap.size<w1.heap.size:=hx1.out.lt
  clear hrow hk hin hl henc hge hnum hp1 BX0 hbl hb01 hw0 hw1 hs0 y0 y1 y2
  unfold itv
  go_enter Tryz.func65,Tryz.ntmps65
  go_upto_region 2 with fail
  rw [← HW.out]
  clear HW
  go_wp2
  go_loopw [3,13] (fun o i wr=>∃ (k c:Nat) (ao:Option Addr) (bss:List (List Int)),k≤nk∧i=.int .i64 k∧o=.slice ao (k+1) c∧Hid (PZ (w.heap.size+1) wr ao (k+1) c bss)∧Hid (encK (enc r) bss.flatten (x.kids.drop k)=some inner)∧Hid (BoxT 94 w.heap.size wr x ab nb cb ak nk ck)∧Below w.heap.size w wr) (fun _ i _=>nk - (intOf i).toNat)
  case atStart=>exact ⟨0,1,_,[x.body],Nat.zero_le _,rfl,rfl,HP1,by show _=_; simpa using HI.out,hx1,hb1⟩
  case round =>
   obtain ⟨k,c,ao,bss,hk,rfl,rfl,HPZ,hE,BX,hbr⟩:=hrel
   obtain ⟨x0,x1,x2,x3,x4⟩:=BX.out.cells
   have hs:=hbr.size
   have hltr:=BX.out.lt
   by_cases hkn:k<nk
   ·obtain ⟨b,off,rfl,hlb,ab1,nb1,cb1,ak1,nk1,ck1,c0,c1',c2,c3,c4,hr1,hn1,hm1,hk1⟩:=HK.out.2.2 k hkn
    obtain ⟨p,hp,hpl,hpn⟩:=encK_step _ _ _ (by rw [HL.out]; exact hkn) _ _ hE.out
    obtain ⟨y,hy⟩:∃ y,y=x.kids.getD k default:=⟨_,rfl⟩
    rw [← hy] at c0 c1' c2 hr1 hk1 hp
    have cc:∀ j,wr.cell? ⟨b,j,none⟩=w.cell? ⟨b,j,none⟩:=fun j=>hbr.cell (p:=⟨b,j,none⟩) hlb
    rw [← cc] at c0 c1' c2 c3 c4
    have hkni:(k:Int)<(nk:Int):=by omega
    have hlbr:b<wr.heap.size:=by omega
    obtain ⟨wk,hwk⟩:∃ wk,wk=wr.alloc (.cells #[.int .i64 y.cls,.int .i64 y.tag,.bool y.cons,.slice ab1 nb1 cb1,.slice ak1 nk1 ck1] 94):=⟨_,rfl⟩
    have hbk:Below wr.heap.size wr wk:=by rw [hwk]; exact (Below.refl _ _).alloc (Nat.le_refl _) _
    have BK:BoxT 94 wr.heap.size wk y ab1 nb1 cb1 ak1 nk1 ck1:=by rw [hwk]; exact boxT_new 94 wr y ab1 nb1 cb1 ak1 nk1 ck1
    have hbwk:Below w.heap.size w wk:=hbr.trans (hbk.mono hs)
    have R1:Hid (Row wk ab1 nb1 y.body):=hr1.kept hbwk
    have K1:Hid (Kids d wk ak1 nk1 y.kids):=hk1.kept hbwk
    have HP:Hid (enc r y=some p):=hp
    have HPN:Hid (encK (enc r) (bss.flatten++p) (x.kids.drop (k+1))=some inner):=hpn
    have HPK:Hid (PZ (w.heap.size+1) wk ao (k+1) c bss):=HPZ.out.kept hbk
    have HXK:Hid (BoxT 94 w.heap.size wk x ab nb cb (some ⟨b,off,none⟩) nk ck):=BX.out.kept hbk
    obtain ⟨z0,z1,z2,z3,z4⟩:=BK.cells
    have hltk:=BK.lt
    have HWK:Hid (_=_):=hwk
    have HBK:Hid (Below w.heap.size w wk):=hbwk
    clear cc hy hr1 hk1 hp hpn x0 x1 x2 x3 x4 hbk BK HPZ BX hwk hbwk
    go_upto_region 5 with fail
    rw [← HWK.out]
    clear HWK c0 c1' c2 c3 c4
    go_wp2_with fail
    refine (ih r y p ab1 nb1 cb1 ak1 nk1 ck1 _ HP.out R1.out hn1 K1.out).mono ?_
    rintro e w2 ⟨a2,c2',rfl,ho2,hb2⟩
    obtain ⟨q,hq⟩:∃ q,q=p.length:=⟨_,rfl⟩
    rw [← hq] at ho2 hpl ⊢
    clear hq
    obtain ⟨vs,hv,hpp⟩:=(HPK.out.kept hb2).row
    have hB2:Below w.heap.size w w2:=HBK.out.trans (hb2.mono HBK.out.size)
    have hal:Below w2.heap.size w2 (w2.alloc (.cells #[.slice a2 q c2'] 26)):=(Below.refl _ _).alloc (Nat.le_refl _) _
    have hB3:Below w.heap.size w (w2.alloc (.cells #[.slice a2 q c2'] 26)):=hB2.trans (hal.mono hB2.size)
    have hown:∀ b,(Value.slice ao (k+1) c).ownBlock=some b→w.heap.size+1≤b∧b<wk.heap.size:=fun b hb=>by
     obtain ⟨vs0,hv0,_⟩:=HPK.out.row
     exact hv0.lt b hb
    have HAPP:Hid (∀ g7 c7 w7,w7.ownsRow (w.heap.size+1) 26 1 (.slice (some ⟨g7,0,none⟩) (k+1+1) c7) (k+1+1) (vs++[.slice a2 q c2'])→(w2.alloc (.cells #[.slice a2 q c2'] 26)).grownBy w7 (Value.slice ao (k+1) c).ownBlock→((Value.slice ao (k+1) c).ownBlock=some g7∨g7=w2.heap.size+1)→PZ (w.heap.size+1) w7 (some ⟨g7,0,none⟩) (k+1+1) c7 (bss++[p])∧BoxT 94 w.heap.size w7 x ab nb cb (some ⟨b,off,none⟩) nk ck∧Below w.heap.size w w7):=by
     intro g7 c7 w7 hv7 hg7 hl7
     have hx3:=(HXK.out.kept hb2).kept hal
     refine ⟨pz_app HPK.out.len (ownsRow_below hv hal) (fun j hj=>?_) (ho2.toRow.kept hal) ho2.nil (fun qq hq2 h0 e=>?_) hv7 hg7 (by simpa using hl7),⟨(hg7.block w.heap.size (by have:=hx3.lt; simpa using this) (fun e=>by have:=(hown _ e.symm).1; omega)).trans hx3.heap⟩,hB3.grown hg7 (by have:=hB3.size; omega) (fun kx hx=>by have:=(hown kx hx).1; omega)⟩
     ·obtain ⟨o,h1,z,m,cz,h2,h3,h4,h5⟩:=hpp j hj
      exact ⟨o,h1,z,m,cz,h2,h3.kept hal,h4,h5⟩
     ·have h8:=(hown _ e).2
      have h9:=(ho2.toI.lt qq hq2 h0).1
      omega
    have HV:Hid (_):=ownsRow_below hv hal
    have hq5:q≤50000:=by omega
    have hs2:=hB2.size
    have hklen:k+1≤9223372036854775806:=by omega
    have HFL:Hid (encK (enc r) (bss++[p]).flatten (x.kids.drop (k+1))=some inner):=by show _=_; rw [flat_snoc]; exact HPN.out
    clear hv hpp hb2 hal ho2 hown HPK HXK HBK z0 z1 z2 z3 z4 hltk
    go_wp2_with (at_builtin; refine wpList_append_lies _ rfl (.tmp 17) (.tmp 20) 121 rfl (w.heap.size+1) 26 j0 _ 1 24 Tryz.underlying121 hj hy0 hy1 hy2 rfl (by decide) _ (k+1) vs rfl HV.out ⟨w2.heap.size,0,none⟩ 1 1 [.slice a2 q c2'] rfl rfl (World.news_of_block (heap_alloc_new w2 (.cells #[.slice a2 q c2'] 26))) (by intro u hu; simp only [List.mem_cons,List.not_mem_nil,or_false] at hu; rcases hu with rfl; rfl) (by decide) (by unfold maxLen; omega) (by omega) (by simp; omega) (w2.heap.size+1) (by simp) ?_; intro g7 c7 w7 hv7 hg7 hl7 hlt7; have HN7:=HAPP.out g7 c7 w7 hv7 hg7 hl7; have HO7:Hid (_):=HN7.1; have HX7:Hid (_):=HN7.2.1; have B7:=HN7.2.2; clear hv7 hg7 hl7 hlt7 HN7 HAPP HV)
    go_roundw
    case rel=>exact ⟨k+1,c7,_,bss++[p],by omega,by go_num,rfl,HO7,HFL,HX7,B7⟩
    case measure=>simp [intOf]; omega
   ·obtain rfl:nk=k:=by omega
    have hacc:Hid (bss.flatten=inner):=by
     show _=_
     have:=hE.out
     rw [encK_end _ _ _ (by rw [HL.out]; exact Nat.le_refl _)] at this
     exact Option.some.inj this
    have hkn2:¬ ((nk:Int)<(nk:Int)):=by omega
    have HTT:Hid (total bss≤50000):=by show _≤_; rw [total_flat,hacc.out]; exact hil
    have HBL:Hid (bss.length=nk+1):=HPZ.out.len
    have hnk2:nk+1≤100000:=by omega
    go_wp2_with fail
    refine (concatB_any ao (nk+1) c bss _ HPZ.out.rows hnk2 HTT.out).mono ?_
    rw [hacc.out]
    rintro e w3 ⟨a3,c3,rfl,ho3,hb3⟩
    obtain ⟨m,hm⟩:∃ m,m=inner.length:=⟨_,rfl⟩
    rw [← hm] at ho3 hil ⊢
    have B3:Hid (Below w.heap.size w w3):=hbr.trans (hb3.mono hs)
    have HO3:Hid (Own w.heap.size w3 a3 m c3 inner):=ho3.mono hs
    have BX3:Hid (BoxT 94 w.heap.size w3 x ab nb cb ak nk ck):=BX.out.kept hb3
    obtain ⟨u0,u1,u2,u3,u4⟩:=BX3.out.cells
    have hlt3:=BX3.out.lt
    have HM:Hid (m=inner.length):=hm
    clear ho3 hb3 HPZ BX x0 x1 x2 x3 x4 hltr hm
    go_wp2_with fail
    refine (itemHead_any x ab nb cb ak nk ck m _ hsb.1 hsb.2 (by omega)).mono ?_
    rintro e w4 ⟨a4,c4,rfl,ho4,hb4⟩
    have B4:Hid (Below w.heap.size w w4):=B3.out.trans (hb4.mono B3.out.size)
    have HO4:Hid (Own w.heap.size w4 a3 m c3 inner):=HO3.out.kept hb4
    have hh:=headL_len x m hsb.2
    have HLL2:Hid (l=headL x m++inner):=by show _=_; rw [HLL.out,HM.out]
    obtain ⟨hd,hhd⟩:∃ hd,hd=headL x m:=⟨_,rfl⟩
    rw [← hhd] at ho4 hh HLL2 ⊢
    obtain ⟨nh,hnh⟩:∃ nh,nh=hd.length:=⟨_,rfl⟩
    rw [← hnh] at ho4 hh ⊢
    have HN:Hid (l.length=nh+m):=by show _=_; rw [HLL2.out,List.length_append,← hnh,HM.out]
    have HH4:Hid (Own w.heap.size w4 a4 nh c4 hd):=ho4.mono B3.out.size
    have hs4:=B4.out.size
    clear hhd hnh ho4 hb4 u0 u1 u2 u3 u4 hlt3
    go_wp2_with (at_builtin; refine wpList_append_row _ rfl (.tmp 28) (.tmp 29) 26 rfl w.heap.size i0 Tryz.underlying26 hi hz0 hz1 hz2 _ _ _ rfl HH4.out.row a3 m c3 inner rfl HO4.out.toRow HO4.out.nil (by omega) hs4 ?_; intro v5 w5 hv5 hg5; obtain ⟨a5,c5,rfl,ho5⟩:=own_appended (xs:=hd) (ys:=inner) hv5 HH4.out.byte HO4.out.byte; have B5:Hid (Below w.heap.size w w5):=below_appended B4.out hs4 HH4.out.row hg5; have HO5:Hid (_):=ho5; clear hv5 hg5 ho5)
    go_ret
    exact ⟨a5,c5,by rw [HN.out]; rfl,by rw [HN.out,HLL2.out]; exact HO5.out,B5.out⟩
theorem longAt_all (d:Nat):LongAt d:=by
 induction d with
 | zero=>intro r x l ab nb cb ak nk ck w _ _ _ h; exact h.elim
 | succ d ih=>exact longAt_next d ih
end Go.Proofs.YtnmplldhdfingaaGreatDoor
