import Derived.Lib.AppendZeros
import Derived.Test.YtkdandggklpppaaGreatDoorFE31
import Derived.Test.YtkdandggklpppaaGreatDoorFE35
set_option maxRecDepth 10000
set_option maxHeartbeats 8000000
set_option linter.unusedVariables false
namespace Go.Proofs.YtkdandggklpppaaGreatDoor
open Go.RowKit Go.Sort
def En (r:Nat)(x:It)(m:Nat):Prop:=∃ l,enc r x=some l∧l.length≤m
theorem En.le {r:Nat}{x:It}{m m':Nat}(h:En r x m)(hm:m≤m'):En r x m':=by
 obtain ⟨l,h1,h2⟩:=h
 exact ⟨l,h1,Nat.le_trans h2 hm⟩
theorem lenL_3 (n:Nat)(h:n<65536):(lenL n).length≤3:=by
 unfold lenL
 split
 ·simp
 ·split
  ·simp
  ·simp
theorem lenL_1 (n:Nat)(h:n<128):(lenL n).length≤1:=by
 unfold lenL
 rw [if_pos h]
 simp
theorem head_len (cls tag:Int)(co:Bool)(bs:List Int)(ks:List It)(n k:Nat)(h1:tag≤30)(hn:(lenL n).length≤k):(headL (.mk cls tag co bs ks) n).length≤k+1:=by
 unfold headL
 rw [List.length_append,if_pos (show (It.mk cls tag co bs ks).tag<31 by show tag<31; omega)]
 simp
 omega
def KL (r:Nat)(ks:List It)(m:Nat):Prop:=∀ acc:List Int,acc.length+m≤50000→∃ l,encK (enc r) acc ks=some l∧l.length≤acc.length+m
theorem KL.nil (r:Nat):KL r [] 0:=fun acc h=>⟨acc,rfl,by omega⟩
theorem KL.cons {r:Nat}{x:It}{xs:List It}{L m:Nat}(h:En r x L)(k:KL r xs m):KL r (x::xs) (L+m):=by
 intro acc hl
 obtain ⟨p,hp,hpl⟩:=h
 obtain ⟨l,h1,h2⟩:=k (acc++p) (by rw [List.length_append]; omega)
 refine ⟨l,?_,?_⟩
 ·rw [encK,hp]
  simp only
  rw [if_pos (by omega)]
  exact h1
 ·rw [List.length_append] at h2
  omega
theorem KL.le {r:Nat}{ks:List It}{m m':Nat}(h:KL r ks m)(hm:m≤m'):KL r ks m':=fun acc ha=>by
 obtain ⟨l,h1,h2⟩:=h acc (by omega)
 exact ⟨l,h1,by omega⟩
theorem KL.map {α:Type}{r:Nat}{f:α→It}{L:Nat}:∀ {xs:List α},(∀ x∈xs,En r (f x) L)→KL r (xs.map f) (xs.length * L)
 | [],_=>by simpa using KL.nil r
 | x::xs,h=>by
  have:=KL.cons (h x (List.mem_cons_self ..)) (KL.map (xs:=xs) (fun y hy=>h y (List.mem_cons_of_mem _ hy)))
  have e:(x::xs).length * L=L+xs.length * L:=by rw [List.length_cons,Nat.succ_mul]; omega
  rw [e]
  exact this
theorem En.box {r:Nat}{cls tag:Int}{ks:List It}{m:Nat}(hc:cls=0∨cls=1)(h0:1≤tag)(h1:tag≤30)(k:KL r ks m)(hm:m≤49990):En (r+1) (.mk cls tag true [] ks) (m+4):=by
 have hs:It.shape (.mk cls tag true [] ks)=true:=by
  unfold It.shape
  simp [It.cls,It.tag,It.cons,It.body]
  omega
 obtain ⟨l,e1,e2⟩:=k [] (by simp; omega)
 simp only [List.length_nil,Nat.zero_add] at e2
 have hi:innerBy (enc r) (.mk cls tag true [] ks)=some l:=by
  unfold innerBy
  rw [if_pos (show (It.mk cls tag true [] ks).cons=true from rfl)]
  exact e1
 have hh:=head_len cls tag true [] ks l.length 3 h1 (lenL_3 _ (by omega))
 exact ⟨_,enc_some r _ _ hs hi (by rw [List.length_append]; omega),by rw [List.length_append]; omega⟩
theorem leaf_en {r:Nat}{t:Int}{bs:List Int}{k:Nat}(h0:1≤t)(h1:t≤30)(hL:bs.length+(k+1)≤50000)(hk:(lenL bs.length).length≤k):En (r+1) (.mk 0 t false bs []) (bs.length+(k+1)):=by
 have hs:It.shape (.mk 0 t false bs [])=true:=by
  unfold It.shape
  simp [It.cls,It.tag,It.cons,It.kids]
  omega
 have hi:innerBy (enc r) (.mk 0 t false bs [])=some bs:=by
  unfold innerBy
  rw [if_neg (by simp [It.cons]),if_pos (by simp [It.body]; omega)]
  rfl
 have hh:=head_len 0 t false bs [] bs.length k h1 hk
 exact ⟨_,enc_some r _ bs hs hi (by rw [List.length_append]; omega),by rw [List.length_append]; omega⟩
theorem En.leaf2 {r:Nat}{t:Int}{bs:List Int}{L:Nat}(h0:1≤t)(h1:t≤30)(hb:bs.length≤L)(hL:L<128):En (r+1) (.mk 0 t false bs []) (L+2) :=
 (leaf_en h0 h1 (by omega) (lenL_1 _ (by omega))).le (by omega)
theorem num_en (r:Nat)(n:Int):En (r+1) (numI n) 10:=En.leaf2 (L:=8) (by decide) (by decide) (by rw [wbL_len]; exact (wsz_bd n).2) (by decide)
theorem flg_en (r:Nat)(b:Bool):En (r+1) (flgI b) 3:=En.leaf2 (L:=1) (by decide) (by decide) (by simp) (by decide)
theorem par_en (r:Nat)(x:PT)(h:x.val.size≤60):En (r+2) (parI x) 76 :=
 En.box (m:=10+(62+0)) (.inl rfl) (by decide) (by decide) (.cons (num_en r _) (.cons (En.leaf2 (L:=60) (by decide) (by decide) (by rw [bytesOf_len]; exact h) (by decide)) (.nil _))) (by decide)
theorem mem_getD {α:Type}{d x:α}{xs:List α}(h:x∈xs):∃ k,k<xs.length∧xs.getD k d=x:=by
 obtain ⟨k,hk,e⟩:=List.mem_iff_getElem.1 h
 exact ⟨k,hk,by simp [hk,e]⟩
theorem nam_en (r:Nat)(xs:List PT)(h:nameP xs):En (r+4) (namI xs) 616:=by
 have h1:KL (r+2) (xs.map parI) 608:=(KL.map (L:=76) (fun x hx=>by
  obtain ⟨k,hk,e⟩:=mem_getD (d:=default) hx
  exact par_en r x (by rw [← e]; exact (h.2 k hk).2.1))).le (by have:=h.1; omega)
 exact En.box (m:=612+0) (.inl rfl) (by decide) (by decide) (.cons (En.box (m:=608) (.inl rfl) (by decide) (by decide) h1 (by decide)) (.nil _)) (by decide)
theorem name_noneU {xs:List PT}(h:xs = []):nameP xs:=by
 subst h
 exact ⟨by simp,fun k hk=>by simp at hk⟩
def goI (y:GP):It:=strI [namI y.parts,numI y.ser,numI y.tm,numI y.rs]
def crK (x:CP):List It:=[namI x.parts,numI x.num,numI x.base,numI x.tm,numI x.next,numI x.scope,flgI x.ind,lstI (x.ents.map goI)]
theorem go_en (r:Nat)(y:GP)(h:nameP y.parts):En (r+5) (goI y) 650 :=
 (En.box (m:=616+(10+(10+(10+0)))) (.inl rfl) (by decide) (by decide) (.cons (nam_en r _ h) (.cons (num_en _ _) (.cons (num_en _ _) (.cons (num_en _ _) (.nil _))))) (by decide)).le (by decide)
theorem ent_name {x:CP}{y:GP}(h:entP x y):nameP y.parts:=by
 obtain ⟨_,_,_,h1,h2,_⟩:=h
 cases hi:x.ind with
 | true=>exact (h1 hi).1
 | false=>exact name_noneU (h2 hi)
theorem crl_en (r:Nat)(x:CP)(h:crlP x):En (r+7) (boxI 4 (crK x)) 39677:=by
 have hl:x.ents.length≤60:=h.1.2.2.2.2.2.2.2.1
 have he:En (r+6) (lstI (x.ents.map goI)) 39004:=En.box (m:=39000) (.inl rfl) (by decide) (by decide) ((KL.map (L:=650) (fun y hy=>by
  obtain ⟨k,hk,e⟩:=mem_getD (d:=default) hy
  exact go_en r y (by rw [← e]; exact ent_name (h.2.1 k hk)))).le (by omega)) (by decide)
 have N:∀ n,En (r+6) (numI n) 10:=fun n=>num_en _ n
 refine En.box (m:=39673) (.inr rfl) (by decide) (by decide) ?_ (by decide)
 refine KL.le (m:=616+(10+(10+(10+(10+(10+(3+(39004+0)))))))) ?_ (by omega)
 exact (.cons (nam_en _ _ h.1.1.1) (.cons (N _) (.cons (N _) (.cons (N _) (.cons (N _) (.cons (N _) (.cons (flg_en _ _) (.cons he (.nil _)))))))))
theorem en_getD {r:Nat}{x:It}{m:Nat}(h:En r x m):enc r x=some ((enc r x).getD [])∧((enc r x).getD []).length≤m:=by
 obtain ⟨l,h1,h2⟩:=h
 rw [h1]
 exact ⟨rfl,h2⟩
def crBody (x:CP):List Int:=(enc 12 (boxI 4 (crK x))).getD []
theorem crBody_enc {x:CP}(h:crlP x):enc 12 (boxI 4 (crK x))=some (crBody x)∧(crBody x).length≤39677:=en_getD (crl_en 5 x h)
theorem w64_of {n:Int}(h0 : -9223372036854775808≤n)(h1:n≤9223372036854775807):W64 n:=⟨h0,h1⟩
theorem nameW {xs:List PT}(h:nameP xs):∀ k,k<xs.length→W64 (xs.getD k default).attr:=fun k hk=>by have:=(h.2 k hk).1; exact w64_of (by omega) (by omega)
def GoW (y:GP):Prop:=(W64 y.ser∧W64 y.tm∧W64 y.rs)∧(∀ j,j<y.parts.length→W64 (y.parts.getD j default).attr)∧y.parts.length≤1000
def GoS (y:GP):Prop:=y.parts.length≤1000∧∀ k,k<y.parts.length→(y.parts.getD k default).val.size≤1000
theorem rea_bd {x:CP}{r:Int}(h:reaP x r):1≤r∧r≤7:=by
 rcases h with ⟨h1,_⟩ | ⟨h1,_⟩ <;> omega
theorem goW_of {x:CP}{y:GP}(h:entP x y):GoW y:=by
 have hn:=ent_name h
 obtain ⟨h1,h2,_,_,_,h3⟩:=h
 have h4:=rea_bd h3
 unfold timeP at h2
 exact ⟨⟨w64_of (by omega) (by omega),w64_of (by omega) (by omega),w64_of (by omega) (by omega)⟩,nameW hn,by have:=hn.1; omega⟩
theorem goS_of {x:CP}{y:GP}(h:entP x y):GoS y:=by
 have hn:=ent_name h
 exact ⟨by have:=hn.1; omega,fun k hk=>by have:=(hn.2 k hk).2.1; omega⟩
open Go.RowKit
theorem own_noneC (B:Nat)(w:World):Own B w none 0 0 []:=⟨World.ownsRow_nil w B 5 1,by simp⟩
theorem growB_nil (n:Nat)(w:World)(h0:0<n)(hn:n≤100000) :
  Calls Tryz.prog 102 #[.slice none 0 0,.int .i64 n] w fun e w'=>∃ a c,e=.returned (.slice a 0 c)∧Own w.heap.size w' a 0 c []∧Below w.heap.size w w':=by
 obtain ⟨i0,hi,hz0,hz1,hz2⟩:=info_parts Tryz.info5
 have hr:=Lib.run_append_nil_zeros (P:=Tryz.prog) w 26 3 26 5 i0 (.int .u8 0) .i64 .i64 Tryz.underlying26 Tryz.underlying3 hi hz0 n h0 (by omega) (by omega) (by rw [hz2]; omega)
 obtain ⟨C,hC⟩:∃ C,C=grownCap w n 0 5:=⟨_,rfl⟩
 rw [← hC] at hr
 obtain ⟨w1,hw1⟩:∃ w1,w1=w.drew.alloc (.cells (Builtin.zeroCells (Value.int .u8 0).cells n++Builtin.zeroCells (Value.int .u8 0).cells (C - n)) 5):=⟨_,rfl⟩
 rw [← hw1] at hr
 have hgc:n≤C∧C≤maxLen:=by rw [hC]; exact ⟨grownCap_ge _ _ _ _ ,grownCap_le_maxLen _ _ _ _ (by unfold maxLen; omega)⟩
 have hown:Own w.heap.size w1 (some ⟨w.heap.size,0,none⟩) 0 C []:=by
  refine ⟨⟨rfl,.inr ⟨w.heap.size,C,_,rfl,Nat.le_refl _,by rw [hw1]; exact heap_alloc_new w.drew _,Nat.zero_le _,hgc.2,?_,rfl⟩⟩,by simp⟩
  simp [Builtin.zeroCells,Value.cells]
  omega
 have hb1:Below w.heap.size w w1:=by rw [hw1]; exact ((Below.refl _ _).drew).alloc (Nat.le_refl _) _
 have HW:Hid (_=_):=hw1
 have HC:Hid (_=_):=hC
 clear hgc hw1 hC
 have HR:Hid (_=_):=hr
 clear hr
 go_enter Tryz.func102,Tryz.ntmps102
 go_wp2_with (first | (at_builtin; refine Lib.wpList_append_run _ rfl _ _ _ _ rfl _ _ rfl rfl _ _ HR.out ?_))
 go_ret
 exact ⟨_,_,rfl,hown,hb1⟩
theorem growB_zero (w:World) :
  Calls Tryz.prog 102 #[.slice none 0 0,.int .i64 0] w fun e w'=>∃ a c,e=.returned (.slice a 0 c)∧Own w.heap.size w' a 0 c []∧Below w.heap.size w w':=by
 go_enter Tryz.func102,Tryz.ntmps102
 go_wp2
 go_ret
 exact ⟨none,0,rfl,own_noneC _ _,Below.refl _ _⟩
theorem growB_any (n:Nat)(w:World)(hn:n≤100000) :
  Calls Tryz.prog 102 #[.slice none 0 0,.int .i64 n] w fun e w'=>∃ a c,e=.returned (.slice a 0 c)∧Own w.heap.size w' a 0 c []∧Below w.heap.size w w':=by
 by_cases h:0<n
 ·exact growB_nil n w h hn
 ·obtain rfl:n=0:=by omega
  exact growB_zero w
theorem take_nextR (bss:List (List Int))(k:Nat)(hk:k<bss.length):bss.take (k+1)=bss.take k++[bss.getD k []]:=by
 rw [List.take_add_one]
 simp [hk]
theorem flat_next (bss:List (List Int))(k:Nat)(hk:k<bss.length):(bss.take (k+1)).flatten=(bss.take k).flatten++bss.getD k []:=by
 rw [take_nextR bss k hk]
 simp
theorem total_flat (bss:List (List Int)):total bss=bss.flatten.length:=by simp [total,List.length_flatten]
theorem concatB_any (a:Option Addr)(n c:Nat)(bss:List (List Int))(w:World)(h:Rows2 w a n bss)(hn:n≤100000)(ht:total bss≤50000) :
  Calls Tryz.prog 82 #[.slice a n c] w fun e w'=>∃ a' c',e=.returned (.slice a' bss.flatten.length c')∧Own w.heap.size w' a' bss.flatten.length c' bss.flatten∧Below w.heap.size w w':=by
 obtain ⟨i0,hi,hz0,hz1,hz2⟩:=info_parts Tryz.info5
 have H0:Hid (Rows2 w a n bss):=h
 have HL:Hid (bss.length=n):=h.len
 have HT:Hid (total bss≤50000):=ht
 clear h ht
 go_enter Tryz.func82,Tryz.ntmps82
 go_wp2
 go_loopw [3,11] (fun sz i wr=>∃ (k s:Nat),k≤n∧i=.int .i64 k∧sz=.int .i64 s∧Hid (s=total (bss.take k))∧Below w.heap.size w wr) (fun _ i _=>n - (intOf i).toNat)
 case atStart=>exact ⟨0,0,Nat.zero_le _,rfl,rfl,by show _=_; simp [total],Below.refl _ _⟩
 case round =>
  obtain ⟨k,s,hk,rfl,rfl,HS,hbr⟩:=hrel
  have hws:=hbr.size
  by_cases hlt:k<n
  ·obtain ⟨b,off,rfl,hlb,ak,nk,ck,hc,hrk,hnk⟩:=H0.out.get k hlt
   have hcr:wr.cell? ⟨b,off+k,none⟩=some (.slice ak nk ck):=(hbr.cell (p:=⟨b,off+k,none⟩) hlb).trans hc
   have hkl:k<bss.length:=by rw [HL.out]; exact hlt
   have HN:Hid (s+nk=total (bss.take (k+1))):=by show _=_; rw [total_split bss k hkl,HS.out,hrk.len]
   have hsn:s+nk≤50000:=by have:=HN.out; have:=total_take bss (k+1); have:=HT.out; omega
   have zz:¬ ((s:Int)+(nk:Int)<0):=by omega
   have hkni:(k:Int)<(n:Int):=by omega
   have hbw:b<wr.heap.size:=by omega
   clear hc hrk hnk
   go_wp2
   go_roundw
   case rel=>exact ⟨k+1,s+nk,by omega,by go_num,by go_num,HN,hbr⟩
   case measure=>simp [intOf]; omega
  ·obtain rfl:k=n:=by omega
   have HS2:Hid (s=total bss):=by show _=_; rw [HS.out,List.take_of_length_le (by rw [HL.out]; exact Nat.le_refl _)]
   have hs5:s≤50000:=by have:=HS2.out; have:=HT.out; omega
   obtain ⟨w1,hw1⟩:∃ w1,w1=wr:=⟨_,rfl⟩
   subst hw1
   go_wp2_with fail
   refine (growB_any s _ (by omega)).mono ?_
   rintro e w2 ⟨a2,c2,rfl,ho2,hb2⟩
   have HO2:Hid (Own w.heap.size w2 a2 0 c2 []):=ho2.mono hws
   have hbz:=hbr.trans (hb2.mono hws)
   clear ho2 HS hbr
   go_wp2
   go_loopw [6,27] (fun o i wr=>∃ (j m:Nat) (ao:Option Addr) (cc:Nat),j≤k∧i=.int .i64 j∧o=.slice ao m cc∧Hid (m=(bss.take j).flatten.length)∧Hid (Own w.heap.size wr ao m cc (bss.take j).flatten)∧Below w.heap.size w wr) (fun _ i _=>k - (intOf i).toNat)
   case atStart=>exact ⟨0,0,a2,c2,Nat.zero_le _,rfl,rfl,by show _=_; simp,HO2,hbz⟩
   case round =>
    obtain ⟨j,m,ao,cc,hj,rfl,rfl,HM,HO,hbr⟩:=hrel
    have hws2:=hbr.size
    by_cases hlt2:j<k
    ·obtain ⟨b,off,rfl,hlb,ak,nk,ck,hc,hrk,hnk⟩:=H0.out.get j hlt2
     have hcr:wr.cell? ⟨b,off+j,none⟩=some (.slice ak nk ck):=(hbr.cell (p:=⟨b,off+j,none⟩) hlb).trans hc
     have hkl:j<bss.length:=by rw [HL.out]; exact hlt2
     have HRK:Hid (Row wr ak nk (bss.getD j [])):=hrk.kept hbr
     have HB:Hid (∀ q,0≤(bss.getD j []).getD q 0∧(bss.getD j []).getD q 0≤255):=hrk.byte
     have HE:Hid ((bss.take (j+1)).flatten=(bss.take j).flatten++bss.getD j []):=flat_next bss j hkl
     have HM2:Hid (m+nk=(bss.take (j+1)).flatten.length):=by show _=_; rw [HE.out,List.length_append,← HM.out,hrk.len]
     have hmn:m+nk≤50000:=by have h1:=HM2.out; rw [← total_flat] at h1; have:=total_take bss (j+1); have:=HT.out; omega
     have hkni:(j:Int)<(k:Int):=by omega
     have hbw:b<wr.heap.size:=by omega
     clear hc hrk
     go_wp2_with (at_builtin; refine wpList_append_row _ rfl _ _ 26 rfl w.heap.size i0 Tryz.underlying26 hi hz0 hz1 hz2 _ _ _ rfl HO.out.row ak nk ck (bss.getD j []) rfl HRK.out hnk (by omega) hws2 ?_; intro v4 w4 hv4 hg4; obtain ⟨a4,c4,rfl,ho4⟩:=own_appended hv4 HO.out.byte HB.out; have hbr4:Below w.heap.size w w4:=below_appended hbr hws2 HO.out.row hg4; have HO4:Hid (Own w.heap.size w4 a4 (m+nk) c4 (bss.take (j+1)).flatten):=(by rw [HE.out]; exact ho4); clear ho4 hv4 hg4)
     go_roundw
     case rel=>exact ⟨j+1,m+nk,a4,c4,by omega,by go_num,rfl,HM2,HO4,hbr4⟩
     case measure=>simp [intOf]; omega
    ·obtain rfl:j=k:=by omega
     have HE:Hid ((bss.take j).flatten=bss.flatten):=by show _=_; rw [List.take_of_length_le (by rw [HL.out]; exact Nat.le_refl _)]
     go_wp2
     go_ret
     exact ⟨ao,cc,by rw [← HE.out,← HM.out]; rfl,by rw [← HE.out,← HM.out]; exact HO.out,hbr⟩
open Go.RowKit Go.Maps
def RG:Value→Option (DataW Unit × List MemPlace):=fun _=>some (.lit (.bool true),[])
def kb (y:GP):List UInt8:=keyBytes [.string (ftS y.parts).data.toList,.int .i64 y.ser]
def Sn (xs:List GP)(k:Nat):DataW Unit:=setOf (.lit (.bool true)) ((xs.take k).map fun y=>Lit.string (kb y))
theorem Sn_zero (xs:List GP):Sn xs 0=.map []:=by simp [Sn,setOf]
theorem Sn_succ (xs:List GP)(k:Nat)(hk:k<xs.length):Sn xs (k+1)=(Sn xs k).put (.string (kb (xs.getD k default))) (.lit (.bool true)):=by
 unfold Sn
 rw [List.take_succ_eq_append_getElem hk,List.map_append,List.getD_eq_getElem?_getD,List.getElem?_eq_getElem hk]
 exact setOf_snoc _ _ _
def MpO (b n:Nat)(D:DataW Unit)(w:World):Prop:=w.ownsMap Tryz.prog 141 RG b n D
theorem MpO.kept {b n:Nat}{D:DataW Unit}{w w':World}(h:MpO b n D w)(hb:Below w.heap.size w w'):MpO b n D w':=by
 have hl:=World.ownsMap.lt h
 obtain ⟨es,clock,he,F,hs,hd⟩:=h
 exact ⟨es,clock,(hb.block b hl).trans he,F,hs,hd⟩
def bk5 (an:Option Addr)(nn cn:Nat)(y:GP)(m:Nat)(D:DataW Unit)(G go B:Nat):RSpec where
 m:=5
 n:=7
 slots:=[13,14,15,16,100004,100005,100006]
 kills:=[[],[],[],[],[],[],[4]]
 pres:=[[],[],[],[],[],[],[]]
 fact:=fun k v w=>match k with
  | 0=>v=.map (some G)
  | 1=>v=.agg #[.slice an nn cn,.int .i64 y.ser,.int .i64 y.tm,.int .i64 y.rs]
  | 2=>v=.agg #[.string (ftS y.parts),.int .i64 y.ser]
  | 3=>v=.agg #[.slice an nn cn,.int .i64 y.ser,.int .i64 y.tm,.int .i64 y.rs]
  | 4=>MpO G (m+1) (D.put (.string (kb y)) (.lit (.bool true))) w
  | 5=>w.heap[go]? = some (.cells #[.slice an nn cn,.int .i64 y.ser,.int .i64 y.tm,.int .i64 y.rs] 65 (0,0))
  | _=>MpO G m D w
theorem bk5_stb (an:Option Addr)(nn cn:Nat)(y:GP)(m:Nat)(D:DataW Unit)(G go B:Nat)(k:Nat)(hk:k<7):StB ((bk5 an nn cn y m D G go (B)).fact k):=by
 match k,hk with
 | 0,_=>exact fun _ _ _ h _=>h
 | 1,_=>exact fun _ _ _ h _=>h
 | 2,_=>exact fun _ _ _ h _=>h
 | 3,_=>exact fun _ _ _ h _=>h
 | 4,_=>exact fun _ _ _ q_0 hb=>q_0.kept hb
 | 5,_=>exact fun _ _ _ q_0 hb=>below_kept q_0 hb
 | 6,_=>exact fun _ _ _ q_0 hb=>q_0.kept hb
 | k+7,hk=>omega
set_option maxRecDepth 100000 in
theorem byKey_any (a : Option Addr) (n c : Nat) (xs : List GP) (w : World) (htab : Lib.TabIs Tryz.prog w "internal/strconv.uint64pow10" .u64 Lib.pow10Tab) (h : Gns w a n xs) (hn : n ≤ 1000) (hp : ∀ k, k < n → nameP (xs.getD k default).parts ∧ (Lit.int .i64 (xs.getD k default).ser).wf = true) :
  Calls Tryz.prog 80 #[.slice a n c] w fun e w'=>e=.returned (.map (some w.heap.size))∧MpO w.heap.size n (Sn xs n) w'∧Below w.heap.size w w':=by
 have hmm:=@run_makeMap Tryz.prog
 have HK:Hid (Gns w a n xs):=h
 have HP:Hid (∀ k,k<n→nameP (xs.getD k default).parts∧(Lit.int .i64 (xs.getD k default).ser).wf=true):=hp
 have HT : Hid (∀ W, Below w.heap.size w W → Lib.TabIs Tryz.prog W "internal/strconv.uint64pow10" .u64 Lib.pow10Tab) := fun W hW => Lib.tabBelow_of_tabIs htab W hW
 have HL:Hid (xs.length=n):=h.len
 clear h hp htab
 go_enter Tryz.func80,Tryz.ntmps80
 go_wp2
 go_loopw [9] (fun i wr=>∃ k:Nat,k≤n∧i=.int .i64 k∧Hid (MpO w.heap.size k (Sn xs k) wr)∧Below w.heap.size w wr) (fun i _=>n - (intOf i).toNat)
 case atStart=>exact ⟨0,Nat.zero_le _,rfl,by rw [Sn_zero]; exact World.ownsMap_made _ _ _ _,(Below.refl _ _).alloc (Nat.le_refl _) _⟩
 case round =>
  obtain ⟨wo,hwo⟩:∃ wo,wo=wr:=⟨_,rfl⟩
  subst hwo
  obtain ⟨k,hk,rfl,HM,hbr⟩:=hrel
  by_cases hkn:k<n
  ·obtain ⟨b1,off1,an,nn,cn,rfl,hl1,hc1,hp1⟩:=HK.out.get k hkn
   have hpk:=HP.out k hkn
   obtain ⟨y,hy⟩:∃ y,y=xs.getD k default:=⟨_,rfl⟩
   rw [← hy] at hc1 hp1 hpk
   have HSS:Hid (Sn xs (k+1)=(Sn xs k).put (.string (kb y)) (.lit (.bool true))):=by show _=_; rw [hy]; exact Sn_succ xs k (by rw [HL.out]; exact hkn)
   obtain ⟨d0,d1,d2,d3⟩:=hc1.of (w':=wo) (fun i=>hbr.cell (p:=⟨b1,i,none⟩) hl1)
   obtain ⟨W1,hW1⟩:∃ W1,W1=wo.alloc (.cells #[.slice an nn cn,.int .i64 y.ser,.int .i64 y.tm,.int .i64 y.rs] 65):=⟨_,rfl⟩
   have hbW:Below wo.heap.size wo W1:=by rw [hW1]; exact (Below.refl _ _).alloc (Nat.le_refl _) _
   have HE1:Hid (W1.heap[wo.heap.size]? = some (.cells #[.slice an nn cn,.int .i64 y.ser,.int .i64 y.tm,.int .i64 y.rs] 65 (0,0))):=by show _=_; rw [hW1]; exact heap_alloc_new wo _
   have hB1:Below w.heap.size w W1:=hbr.trans (hbW.mono hbr.size)
   have hml:=World.ownsMap.lt HM.out
   have HM1:Hid (MpO w.heap.size k (Sn xs k) W1):=HM.out.kept hbW
   have HKO:Hid (∀ W,Below w.heap.size W1 W→Calls Tryz.prog 101 #[.agg #[.slice an nn cn,.int .i64 y.ser,.int .i64 y.tm,.int .i64 y.rs]] W fun e w'=>e=.returned (.agg #[.string (ftS y.parts),.int .i64 y.ser])∧Below W.heap.size W w'):=fun W hW=>goneKey_any an nn cn y W (HT.out W (hB1.trans hW)) (hp1.kept (hB1.trans hW)) hpk.1
   have HKI:Hid (Go.keyOf Tryz.prog 141 (.agg #[.string (ftS y.parts),.int .i64 y.ser])=some (.string (kb y))):=key_is (by
    show (fbs y.parts).toArray.size≤maxLen
    have h1:=fbs_len y.parts (nameP_all hpk.1)
    have h2:=hpk.1.1
    rw [List.size_toArray]
    unfold maxLen
    omega) hpk.2
   have HMM:k<maxLen:=by unfold maxLen; omega
   have HBB:w.heap.size≤W1.heap.size:=hB1.size
   have hkni:(k:Int)<(n:Int):=by omega
   obtain ⟨D,hD⟩:∃ D,D=Sn xs k:=⟨_,rfl⟩
   rw [← hD] at HM1 HSS
   obtain ⟨m,hm⟩:∃ m,m=k:=⟨_,rfl⟩
   have HW1:Hid (_=_):=hW1
   clear hW1 hc1 hp1 hy hbW hpk HM hD
   go_upto_region 5 with fail
   rw [← HW1.out]
   clear HW1 d0 d1 d2 d3
   rw [← hm] at HM1 HMM
   refine wp_region_ri (bk5 an nn cn y m D w.heap.size wo.heap.size (w.heap.size)) [13,14,15,16] (w.heap.size) (fun a0=>a0.tmps.size=19∧aT a0 3=.map (some w.heap.size)∧aT a0 5=.pointer (some ⟨wo.heap.size,0,none⟩)) (by kernel_rfl) rfl (by kernel_rfl) rfl ⟨rfl,rfl,rfl⟩ (bk5_stb an nn cn y m D w.heap.size wo.heap.size (w.heap.size)) ?_ ?_ ?_
   ·intro k hk hk2
    match k,hk,hk2 with
    | 5,_,_=>exact HE1.out
    | 6,_,_=>exact HM1.out
    | 0,hk,_=>exact absurd hk (by show ¬ (5≤0); omega)
    | 1,hk,_=>exact absurd hk (by show ¬ (5≤1); omega)
    | 2,hk,_=>exact absurd hk (by show ¬ (5≤2); omega)
    | 3,hk,_=>exact absurd hk (by show ¬ (5≤3); omega)
    | 4,hk,_=>exact absurd hk (by show ¬ (5≤4); omega)
    | k+7,_,hk2=>exact absurd hk2 (by show ¬ (k+7<7); omega)
   ·rintro a0 ⟨hz,g3,g5⟩
    refine StepsRI.cons ?_ (StepsRI.cons ?_ (StepsRI.cons ?_ (StepsRI.cons ?_ (StepsRI.cons ?_ (StepsRI.nil)))))
    ·intro lQ b W hI hUN hED KQ hKQ
     exact opw_move 3 rfl (hKQ.out _ _ (hI.put 0 13 rfl rfl (by rw [hz]; decide) rfl hUN rfl HBB (bk5_stb an nn cn y m D w.heap.size wo.heap.size (w.heap.size)) (Below.refl _ _) ((hI.fr.same 3 (by decide)).trans g3)))
    ·intro lQ b W hI hUN hED KQ hKQ
     have hg:=(hI.vot 5 (of_decide_eq_true rfl) (of_decide_eq_true rfl) rfl)
     refine wp_load_row 65 _ rfl (wo.heap.size) ((hI.fr.same 5 (by decide)).trans g5) 65 #[.slice an nn cn,.int .i64 y.ser,.int .i64 y.tm,.int .i64 y.rs] (0,0) _ hg Tryz.underlying65 rfl (by kernel_rfl) ?_
     exact hKQ.out _ _ (hI.put 1 14 rfl rfl (by rw [hz]; decide) rfl hUN rfl HBB (bk5_stb an nn cn y m D w.heap.size wo.heap.size (w.heap.size)) (Below.refl _ _) rfl)
    ·intro lQ b W hI hUN hED KQ hKQ
     have f0:=hI.got 1 (of_decide_eq_true rfl) (edge hED 1 (by kernel_rfl)) rfl
     replace f0:aT b 14=.agg #[.slice an nn cn,.int .i64 y.ser,.int .i64 y.tm,.int .i64 y.rs]:=f0
     refine opw_call 101 #[.tmp 14] _ _ _ rfl Tryz.func101 (by kernel_rfl) rfl #[.agg #[.slice an nn cn,.int .i64 y.ser,.int .i64 y.tm,.int .i64 y.rs]] (by simp [ev,f0]) ?_
     refine (HKO.out W hI.bel).mono ?_
     rintro e W2 ⟨rfl,hb⟩
     exact ⟨_,rfl,hKQ.out _ _ (hI.put 2 15 rfl rfl (by rw [hz]; decide) rfl hUN rfl HBB (bk5_stb an nn cn y m D w.heap.size wo.heap.size (w.heap.size)) hb rfl)⟩
    ·intro lQ b W hI hUN hED KQ hKQ
     have hg:=(hI.vot 5 (of_decide_eq_true rfl) (of_decide_eq_true rfl) rfl)
     refine wp_load_row 65 _ rfl (wo.heap.size) ((hI.fr.same 5 (by decide)).trans g5) 65 #[.slice an nn cn,.int .i64 y.ser,.int .i64 y.tm,.int .i64 y.rs] (0,0) _ hg Tryz.underlying65 rfl (by kernel_rfl) ?_
     exact hKQ.out _ _ (hI.put 3 16 rfl rfl (by rw [hz]; decide) rfl hUN rfl HBB (bk5_stb an nn cn y m D w.heap.size wo.heap.size (w.heap.size)) (Below.refl _ _) rfl)
    ·intro lQ b W hI hUN hED KQ hKQ
     have f0:aT b 13=.map (some w.heap.size):=hI.got 0 (of_decide_eq_true rfl) (edge hED 0 (by kernel_rfl)) rfl
     have f1:aT b 15=.agg #[.string (ftS y.parts),.int .i64 y.ser]:=hI.got 2 (of_decide_eq_true rfl) (edge hED 2 (by kernel_rfl)) rfl
     have f2:aT b 16=.agg #[.slice an nn cn,.int .i64 y.ser,.int .i64 y.tm,.int .i64 y.rs]:=hI.got 3 (of_decide_eq_true rfl) (edge hED 3 (by kernel_rfl)) rfl
     have hM:MpO w.heap.size m D W:=hI.vot1 6 4 (of_decide_eq_true rfl) (of_decide_eq_true rfl) hUN rfl
     have hbx:W.heap[wo.heap.size]? = some (.cells #[.slice an nn cn,.int .i64 y.ser,.int .i64 y.tm,.int .i64 y.rs] 65 (0,0)):=hI.vot 5 (of_decide_eq_true rfl) (of_decide_eq_true rfl) rfl
     refine opw_mapUpdate 13 15 16 _ rfl 141 65 kLaw Tryz.underlying118 RG w.heap.size m D f0 hM HMM _ _ (.string (kb y)) f1 f2 HKI.out (.lit (.bool true)) [] rfl ?_
     intro W2 hM2 hgr
     refine hKQ.out _ _ (hI.store 4 (fun j hj=>by cases hj) (hI.bel.grown hgr (Nat.le_trans HBB hI.bel.size) (fun q hq=>by cases hq; exact Nat.le_refl _)) (fun k hk hne hkill v hfact=>?_) hM2)
     match k,hk,hne,hkill,hfact with
     | 0,_,_,_,hq=>exact hq
     | 1,_,_,_,hq=>exact hq
     | 2,_,_,_,hq=>exact hq
     | 3,_,_,_,hq=>exact hq
     | 4,_,hne,_,_=>exact absurd rfl hne
     | 5,_,_,_,hq=>exact (hgr.block _ (Array.getElem?_eq_some_iff.1 hbx).1 (by intro e; simp only [Option.some.injEq] at e; omega)).trans hq
     | 6,_,_,hkill,_=>exact absurd (List.Mem.head _) hkill
     | k+7,hk,_,_,_=>exact absurd hk (by show ¬ (k+7<7); omega)
   ·intro b W hf hb F
    have hk:=F 4 (of_decide_eq_true rfl) rfl
    rw [hf.eq]
    simp only [puts,Act.put,List.setIfInBounds_toArray,List.set_cons_zero,List.set_cons_succ]
    clear hf F
    have HM2:Hid (MpO w.heap.size (m+1) (D.put (.string (kb y)) (.lit (.bool true))) W):=hk
    clear hk
    have HM3:Hid (MpO w.heap.size (k+1) (Sn xs (k+1)) W):=by show MpO _ _ _ _; rw [HSS.out,← hm]; exact HM2.out
    have hB2:Below w.heap.size w W:=hB1.trans hb
    clear HM2
    generalize aT b=AT
    clear b
    go_wp2
    go_roundw
    case rel=>exact ⟨k+1,by omega,by go_num,HM3.out,hB2⟩
    case measure=>simp [intOf]; omega
  ·have hkn':k=n:=by omega
   subst hkn'
   have hni:¬ ((k:Int)<(k:Int)):=by omega
   go_wp2
   go_ret
   exact ⟨rfl,HM.out,hbr⟩
open Go.RowKit
theorem OwnU.set {B:Nat}{w:World}{a:Option Addr}{n cap:Nat}{zs:List Int}(h:OwnU B w a n cap zs){g:Nat}(hg:g<B)(i:Nat)(v:Value):OwnU B (w.setCell ⟨g,i,none⟩ v) a n cap zs:=by
 refine ⟨⟨h.row.1,?_⟩,h.rng⟩
 rcases h.row.2 with h | ⟨g',cap',cur,hv,hb,hh,r⟩
 ·exact .inl h
 ·exact .inr ⟨g',cap',cur,hv,hb,(Below.heap_setCell _ _ _ _ (by simp; omega)).trans hh,r⟩
end Go.Proofs.YtkdandggklpppaaGreatDoor
