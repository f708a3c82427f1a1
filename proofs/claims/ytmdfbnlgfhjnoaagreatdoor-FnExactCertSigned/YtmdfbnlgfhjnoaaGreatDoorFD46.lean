import Derived.Test.YtmdfbnlgfhjnoaaGreatDoorFD39
import Derived.Test.YtmdfbnlgfhjnoaaGreatDoorFD44
import Derived.Test.YtmdfbnlgfhjnoaaGreatDoorFD45
set_option maxRecDepth 10000
set_option maxHeartbeats 8000000
set_option linter.unusedVariables false
namespace Go.Proofs.YtmdfbnlgfhjnoaaGreatDoor
open Go.RowKit Go.Sort
def En (r:Nat)(x:It)(m:Nat):Prop:=∃ l,enc r x=some l∧l.length≤m
theorem En.le {r:Nat}{x:It}{m m':Nat}(h:En r x m)(hm:m≤m'):En r x m':=by
 obtain ⟨l,h1,h2⟩:=h
 exact ⟨l,h1,Nat.le_trans h2 hm⟩
theorem lenL_3 (n:Nat)(h:n<65536):(lenL n).length≤3:=by
 unfold lenL
 split
 ·simp
 ·split
  ·simp
  ·simp
theorem lenL_1 (n:Nat)(h:n<128):(lenL n).length≤1:=by
 unfold lenL
 rw [if_pos h]
 simp
theorem head_len (cls tag:Int)(co:Bool)(bs:List Int)(ks:List It)(n k:Nat)(h1:tag≤30)(hn:(lenL n).length≤k):(headL (.mk cls tag co bs ks) n).length≤k+1:=by
 unfold headL
 rw [List.length_append,if_pos (show (It.mk cls tag co bs ks).tag<31 by show tag<31; omega)]
 simp
 omega
def KL (r:Nat)(ks:List It)(m:Nat):Prop:=∀ acc:List Int,acc.length+m≤20000→∃ l,encK (enc r) acc ks=some l∧l.length≤acc.length+m
theorem KL.nil (r:Nat):KL r [] 0:=fun acc h=>⟨acc,rfl,by omega⟩
theorem KL.cons {r:Nat}{x:It}{xs:List It}{L m:Nat}(h:En r x L)(k:KL r xs m):KL r (x::xs) (L+m):=by
 intro acc hl
 obtain ⟨p,hp,hpl⟩:=h
 obtain ⟨l,h1,h2⟩:=k (acc++p) (by rw [List.length_append]; omega)
 refine ⟨l,?_,?_⟩
 ·rw [encK,hp]
  simp only
  rw [if_pos (by omega)]
  exact h1
 ·rw [List.length_append] at h2
  omega
theorem KL.le {r:Nat}{ks:List It}{m m':Nat}(h:KL r ks m)(hm:m≤m'):KL r ks m':=fun acc ha=>by
 obtain ⟨l,h1,h2⟩:=h acc (by omega)
 exact ⟨l,h1,by omega⟩
theorem KL.map {α:Type}{r:Nat}{f:α→It}{L:Nat}:∀ {xs:List α},(∀ x∈xs,En r (f x) L)→KL r (xs.map f) (xs.length * L)
 | [],_=>by simpa using KL.nil r
 | x::xs,h=>by
  have:=KL.cons (h x (List.mem_cons_self ..)) (KL.map (xs:=xs) (fun y hy=>h y (List.mem_cons_of_mem _ hy)))
  have e:(x::xs).length * L=L+xs.length * L:=by rw [List.length_cons,Nat.succ_mul]; omega
  rw [e]
  exact this
theorem En.box {r:Nat}{cls tag:Int}{ks:List It}{m:Nat}(hc:cls=0∨cls=1)(h0:1≤tag)(h1:tag≤30)(k:KL r ks m)(hm:m≤19990):En (r+1) (.mk cls tag true [] ks) (m+4):=by
 have hs:It.shape (.mk cls tag true [] ks)=true:=by
  unfold It.shape
  simp [It.cls,It.tag,It.cons,It.body]
  omega
 obtain ⟨l,e1,e2⟩:=k [] (by simp; omega)
 simp only [List.length_nil,Nat.zero_add] at e2
 have hi:innerBy (enc r) (.mk cls tag true [] ks)=some l:=by
  unfold innerBy
  rw [if_pos (show (It.mk cls tag true [] ks).cons=true from rfl)]
  exact e1
 have hh:=head_len cls tag true [] ks l.length 3 h1 (lenL_3 _ (by omega))
 exact ⟨_,enc_some r _ _ hs hi (by rw [List.length_append]; omega),by rw [List.length_append]; omega⟩
theorem leaf_en {r:Nat}{t:Int}{bs:List Int}{k:Nat}(h0:1≤t)(h1:t≤30)(hL:bs.length+(k+1)≤20000)(hk:(lenL bs.length).length≤k):En (r+1) (.mk 0 t false bs []) (bs.length+(k+1)):=by
 have hs:It.shape (.mk 0 t false bs [])=true:=by
  unfold It.shape
  simp [It.cls,It.tag,It.cons,It.kids]
  omega
 have hi:innerBy (enc r) (.mk 0 t false bs [])=some bs:=by
  unfold innerBy
  rw [if_neg (by simp [It.cons]),if_pos (by simp [It.body]; omega)]
  rfl
 have hh:=head_len 0 t false bs [] bs.length k h1 hk
 exact ⟨_,enc_some r _ bs hs hi (by rw [List.length_append]; omega),by rw [List.length_append]; omega⟩
theorem En.leaf2 {r:Nat}{t:Int}{bs:List Int}{L:Nat}(h0:1≤t)(h1:t≤30)(hb:bs.length≤L)(hL:L<128):En (r+1) (.mk 0 t false bs []) (L+2) :=
 (leaf_en h0 h1 (by omega) (lenL_1 _ (by omega))).le (by omega)
theorem En.leaf4 {r:Nat}{t:Int}{bs:List Int}{L:Nat}(h0:1≤t)(h1:t≤30)(hb:bs.length≤L)(hL:L≤19990):En (r+1) (.mk 0 t false bs []) (L+4) :=
 (leaf_en h0 h1 (by omega) (lenL_3 _ (by omega))).le (by omega)
theorem num_en (r:Nat)(n:Int):En (r+1) (numI n) 10:=En.leaf2 (L:=8) (by decide) (by decide) (by rw [wbL_len]; exact (wsz_bd n).2) (by decide)
theorem flg_en (r:Nat)(b:Bool):En (r+1) (flgI b) 3:=En.leaf2 (L:=1) (by decide) (by decide) (by simp) (by decide)
theorem par_en (r:Nat)(x:PT)(h:x.val.size≤60):En (r+2) (parI x) 76 :=
 En.box (m:=10+(62+0)) (.inl rfl) (by decide) (by decide) (.cons (num_en r _) (.cons (En.leaf2 (L:=60) (by decide) (by decide) (by rw [bytesOf_len]; exact h) (by decide)) (.nil _))) (by decide)
theorem mem_getD {α:Type}{d x:α}{xs:List α}(h:x∈xs):∃ k,k<xs.length∧xs.getD k d=x:=by
 obtain ⟨k,hk,e⟩:=List.mem_iff_getElem.1 h
 exact ⟨k,hk,by simp [hk,e]⟩
theorem nam_en (r:Nat)(xs:List PT)(h:nameP xs):En (r+4) (namI xs) 616:=by
 have h1:KL (r+2) (xs.map parI) 608:=(KL.map (L:=76) (fun x hx=>by
  obtain ⟨k,hk,e⟩:=mem_getD (d:=default) hx
  exact par_en r x (by rw [← e]; exact (h.2 k hk).2.1))).le (by have:=h.1; omega)
 exact En.box (m:=612+0) (.inl rfl) (by decide) (by decide) (.cons (En.box (m:=608) (.inl rfl) (by decide) (by decide) h1 (by decide)) (.nil _)) (by decide)
def GeB (y:GE):Prop:=(1≤y.g.kind∧y.g.kind≤4)∧(0≤y.g.addr∧y.g.addr≤4294967295)∧(0≤y.g.bits∧y.g.bits≤32)∧nameP y.parts∧((y.parts.length=0∧y.g.text.size≤121)∨y.g.text.size=0)
theorem name_none {xs:List PT}(h:xs.length=0):nameP xs:=⟨by omega,fun k hk=>by omega⟩
theorem mail_size {s:ByteArray}(h:mailP s):s.size≤121:=by
 obtain ⟨j,r,h1,h2,h3,h4⟩:=cut_head s 64
 rcases h4 with ⟨hr,hj⟩ | ⟨_,hj,hc⟩
 ·obtain ⟨a,b,hab,_⟩:=h
  rw [h1,hr] at hab
  simp at hab
 ·have h5:=(mailP_iff hj hc h3).1 h
  have h6:=h5.1.1.2
  have h7:=h5.2.1
  rw [ByteArray.size_extract] at h6 h7
  omega
theorem gen_bd {y:GE}(h:genP y.g y.parts):GeB y:=by
 rcases h with ⟨k,⟨a,b,n⟩,t⟩ | ⟨k,⟨a,b,n⟩,t⟩ | ⟨k,⟨t,n⟩,a,b⟩ | ⟨k,⟨t,a,b⟩,n,_⟩
 ·exact ⟨by omega,by omega,by omega,name_none n,.inl ⟨n,by have:=t.1; omega⟩⟩
 ·exact ⟨by omega,by omega,by omega,name_none n,.inl ⟨n,mail_size t⟩⟩
 ·exact ⟨by omega,by omega,by omega,name_none n,.inr t⟩
 ·exact ⟨by omega,by omega,by omega,n,.inr t⟩
theorem base_bd {y:GE}(h:baseP y.g y.parts):GeB y:=by
 rcases h with ⟨k,⟨a,b,n⟩,t⟩ | ⟨k,⟨a,b,n⟩,t⟩ | ⟨k,⟨t,n⟩,a,b,_⟩ | ⟨k,⟨t,a,b⟩,n⟩
 ·exact ⟨by omega,by omega,by omega,name_none n,.inl ⟨n,by have:=t.1; omega⟩⟩
 ·refine ⟨by omega,by omega,by omega,name_none n,.inl ⟨n,?_⟩⟩
  rcases t with t | t | ⟨_,_,t⟩
  ·exact mail_size t
  ·have:=t.1; omega
  ·have:=t.1
   rw [ByteArray.size_extract] at this
   omega
 ·exact ⟨by omega,by omega,b,name_none n,.inr t⟩
 ·exact ⟨by omega,by omega,by omega,n,.inr t⟩
theorem gne_en (r:Nat)(y:GE)(h:GeB y):En (r+5) (gneI y) 652:=by
 rcases h with ⟨_,_,_,hn,ht⟩
 rcases ht with ⟨h0,ht⟩ | ht
 ·have hp:y.parts = []:=List.eq_nil_of_length_eq_zero h0
  have h1:KL (r+2) (y.parts.map parI) 0:=by rw [hp]; exact .nil _
  have h2:En (r+4) (namI y.parts) 8:=En.box (m:=4+0) (.inl rfl) (by decide) (by decide) (.cons (En.box (m:=0) (.inl rfl) (by decide) (by decide) h1 (by decide)) (.nil _)) (by decide)
  exact (En.box (m:=10+(123+(10+(10+(8+0))))) (.inl rfl) (by decide) (by decide) (.cons (num_en _ _) (.cons (En.leaf2 (L:=121) (by decide) (by decide) (by rw [bytesOf_len]; exact ht) (by decide)) (.cons (num_en _ _) (.cons (num_en _ _) (.cons h2 (.nil _)))))) (by decide)).le (by decide)
 ·exact (En.box (m:=10+(2+(10+(10+(616+0))))) (.inl rfl) (by decide) (by decide) (.cons (num_en _ _) (.cons (En.leaf2 (L:=0) (by decide) (by decide) (by rw [bytesOf_len]; omega) (by decide)) (.cons (num_en _ _) (.cons (num_en _ _) (.cons (nam_en r _ hn) (.nil _)))))) (by decide)).le (by decide)
def GesB (xs:List GE):Prop:=xs.length≤8∧∀ k,k<xs.length→GeB (xs.getD k default)
theorem ges_en (r:Nat)(xs:List GE)(h:GesB xs):En (r+6) (lstI (xs.map gneI)) 5220:=by
 have h1:KL (r+5) (xs.map gneI) 5216:=(KL.map (L:=652) (fun x hx=>by
  obtain ⟨k,hk,e⟩:=mem_getD (d:=default) hx
  exact gne_en r x (by rw [← e]; exact h.2 k hk))).le (by have:=h.1; omega)
 exact En.box (m:=5216) (.inl rfl) (by decide) (by decide) h1 (by decide)
theorem key_en (r:Nat)(p:Int × Int × Int):En (r+2) (kyI p) 34 :=
 En.box (m:=10+(10+(10+0))) (.inl rfl) (by decide) (by decide) (.cons (num_en _ _) (.cons (En.leaf2 (L:=8) (by decide) (by decide) (by rw [eightI_len]; decide) (by decide)) (.cons (num_en _ _) (.nil _)))) (by decide)
theorem map_en (r:Nat)(p:Int × Int):En (r+2) (mapI p) 24 :=
 En.box (m:=10+(10+0)) (.inl rfl) (by decide) (by decide) (.cons (num_en _ _) (.cons (num_en _ _) (.nil _))) (by decide)
theorem ext_en (r:Nat)(x:XP)(h:x.val.length≤30):En (r+2) (exI x) 49 :=
 En.box (m:=10+(3+(32+0))) (.inl rfl) (by decide) (by decide) (.cons (num_en _ _) (.cons (flg_en _ _) (.cons (En.leaf2 (L:=30) (by decide) (by decide) h (by decide)) (.nil _)))) (by decide)
structure CeB (x:CE):Prop where
 iss:nameP x.iss
 sub:nameP x.sub
 nms:GesB x.nms
 per:GesB x.per
 den:GesB x.den
 pol:x.pol.length≤6∧∀ k,k<x.pol.length→0≤x.pol.getD k 0∧x.pol.getD k 0≤1000
 maps:x.maps.length≤6∧∀ k,k<x.maps.length→((1≤(x.maps.getD k (0,0)).1∧(x.maps.getD k (0,0)).1≤1000)∧(1≤(x.maps.getD k (0,0)).2∧(x.maps.getD k (0,0)).2≤1000))
 ext:x.ext.length≤4∧∀ k,k<x.ext.length→(1≤(x.ext.getD k default).id∧(x.ext.getD k default).id≤1000)∧(x.ext.getD k default).val.length≤30
 sig:x.sig.length≤500
 lim:limP x.room∧limP x.need∧limP x.nomap∧limP x.noany
theorem gens_b {xs:List GE}(h:gensP xs xs.length):GesB xs:=⟨h.1,fun k hk=>gen_bd (h.2 k hk)⟩
theorem bases_b {xs:List GE}(h:basesP xs xs.length):GesB xs:=⟨h.1,fun k hk=>base_bd (h.2 k hk)⟩
theorem ges_none {xs:List GE}(h:xs.length=0):GesB xs:=⟨by omega,fun k hk=>by omega⟩
theorem ceB_of {x:CE}(h:ceP x):CeB x:=by
 obtain ⟨_,hi,hs,_,_,_,hp,he,hg,ha⟩:=h
 have hx:x.ext.length≤4∧∀ k,k<x.ext.length→(1≤(x.ext.getD k default).id∧(x.ext.getD k default).id≤1000)∧(x.ext.getD k default).val.length≤30:=⟨he.1,fun k hk=>⟨(he.2 k hk).1,(he.2 k hk).2.2⟩⟩
 cases hc:x.ca with
 | false =>
  obtain ⟨a,b,c,d,e,f,g⟩:=ha.1 hc
  exact ⟨hi.1,hs.1,gens_b hs.2.2,ges_none e,ges_none f,⟨hp.1,hp.2.1⟩,⟨by omega,fun k hk=>by omega⟩,hx,hg,by unfold limP; omega⟩
 | true =>
  obtain ⟨a,b,c,d,e,f,g⟩:=ha.2 hc
  exact ⟨hi.1,hs.1,gens_b hs.2.2,bases_b e,bases_b f,⟨hp.1,hp.2.1⟩,⟨g.1,fun k hk=>g.2 k hk⟩,hx,hg,a,b,c,d⟩
theorem body_en (r:Nat)(x:CE)(h:CeB x):En (r+7) (boxI 1 (ceK x)) 17425:=by
 have hp:En (r+6) (lstI (x.pol.map numI)) 64:=En.box (m:=60) (.inl rfl) (by decide) (by decide) ((KL.map (L:=10) (fun y _=>num_en _ y)).le (by have:=h.pol.1; omega)) (by decide)
 have hm:En (r+6) (lstI (x.maps.map mapI)) 148:=En.box (m:=144) (.inl rfl) (by decide) (by decide) ((KL.map (L:=24) (fun y _=>map_en _ y)).le (by have:=h.maps.1; omega)) (by decide)
 have he:En (r+6) (lstI (x.ext.map exI)) 200:=En.box (m:=196) (.inl rfl) (by decide) (by decide) ((KL.map (L:=49) (fun y hy=>by
  obtain ⟨k,hk,e⟩:=mem_getD (d:=default) hy
  exact ext_en _ y (by rw [← e]; exact (h.ext.2 k hk).2))).le (by have:=h.ext.1; omega)) (by decide)
 have N:∀ n,En (r+6) (numI n) 10:=fun n=>num_en _ n
 refine En.box (m:=17421) (.inr rfl) (by decide) (by decide) ?_ (by decide)
 refine KL.le (m:=10+(616+(616+(10+(10+(34+(3+(10+(10+(5220+(5220+(5220+(64+(148+(10+(10+(10+(200+0)))))))))))))))))) ?_ (by omega)
 exact (.cons (N _) (.cons (nam_en _ _ h.iss) (.cons (nam_en _ _ h.sub) (.cons (N _) (.cons (N _) (.cons (key_en _ _) (.cons (flg_en _ _) (.cons (N _) (.cons (N _) (.cons (ges_en r _ h.nms) (.cons (ges_en r _ h.per) (.cons (ges_en r _ h.den) (.cons hp (.cons hm (.cons (N _) (.cons (N _) (.cons (N _) (.cons he (.nil _)))))))))))))))))))
theorem cert_en (r:Nat)(x:CE)(h:CeB x):En (r+8) (boxI 2 [boxI 1 (ceK x),bytI x.sig]) 17933 :=
 En.box (m:=17425+(504+0)) (.inr rfl) (by decide) (by decide) (.cons (body_en r x h) (.cons (En.leaf4 (L:=500) (by decide) (by decide) h.sig (by decide)) (.nil _))) (by decide)
def ceBody (x:CE):List Int:=(enc 12 (boxI 1 (ceK x))).getD []
def ceBytes (x:CE):List Int:=(enc 12 (boxI 2 [boxI 1 (ceK x),bytI x.sig])).getD []
theorem en_getD {r:Nat}{x:It}{m:Nat}(h:En r x m):enc r x=some ((enc r x).getD [])∧((enc r x).getD []).length≤m:=by
 obtain ⟨l,h1,h2⟩:=h
 rw [h1]
 exact ⟨rfl,h2⟩
theorem ceBody_enc {x:CE}(h:ceP x):enc 12 (boxI 1 (ceK x))=some (ceBody x)∧(ceBody x).length≤17425:=en_getD (body_en 5 x (ceB_of h))
theorem ceBytes_enc {x:CE}(h:ceP x):enc 12 (boxI 2 [boxI 1 (ceK x),bytI x.sig])=some (ceBytes x)∧(ceBytes x).length≤17933:=en_getD (cert_en 4 x (ceB_of h))
theorem w64_of {n:Int}(h0 : -9223372036854775808≤n)(h1:n≤9223372036854775807):W64 n:=⟨h0,h1⟩
theorem nameW {xs:List PT}(h:nameP xs):∀ k,k<xs.length→W64 (xs.getD k default).attr:=fun k hk=>by have:=(h.2 k hk).1; exact w64_of (by omega) (by omega)
theorem geW_of {y:GE}(h:GeB y):GeW y:=by
 obtain ⟨h1,h2,h3,hn,_⟩:=h
 exact ⟨⟨w64_of (by omega) (by omega),w64_of (by omega) (by omega),w64_of (by omega) (by omega)⟩,nameW hn,by have:=hn.1; omega⟩
theorem geS_of {y:GE}(h:GeB y):GeS y:=by
 obtain ⟨_,_,_,hn,ht⟩:=h
 exact ⟨by omega,by have:=hn.1; omega,fun k hk=>by have:=(hn.2 k hk).2.1; omega⟩
theorem pub_w {p:Int × Int × Int}(h:pubP p.1 p.2.1 p.2.2):W64 p.1∧W64 p.2.2:=by
 rcases h with ⟨h1,h2⟩ | ⟨h1,h2⟩
 ·have:=h2.2
  exact ⟨w64_of (by omega) (by omega),w64_of (by omega) (by omega)⟩
 ·have h3:0≤p.2.2∧p.2.2≤5:=h2
  exact ⟨w64_of (by omega) (by omega),w64_of (by omega) (by omega)⟩
theorem ceW_of {w:World}{s:CES}{x:CE}(hr:CER w s x)(hu:U64 x.key.2.1)(h:ceP x):CeW s x:=by
 have hb:=ceB_of h
 obtain ⟨h1,_,_,⟨h4,h5,_⟩,h6,h7,_⟩:=h
 have l1:=hr.r1.len; have l2:=hr.r2.len; have l3:=hr.r3.len; have l4:=hr.r4.len; have l5:=hr.r5.len; have l6:=hr.r6.len; have l7:=hr.r7.len; have l8:=hr.r8.len; have l9:=hr.r9.len
 have b1:=hb.iss.1; have b2:=hb.sub.1; have b3:=hb.nms.1; have b4:=hb.per.1; have b5:=hb.den.1; have b6:=hb.pol.1; have b7:=hb.maps.1; have b8:=hb.ext.1; have b9:=hb.sig
 obtain ⟨q1,q2,q3,q4⟩:=hb.lim
 unfold limP at q1 q2 q3 q4
 have pw:=pub_w h6
 refine ⟨w64_of (by omega) (by omega),w64_of (by omega) (by omega),w64_of (by omega) (by omega),w64_of (by omega) (by omega),w64_of (by omega) (by omega),w64_of (by omega) (by omega),w64_of (by omega) (by omega),w64_of (by omega) (by omega),⟨pw.1,hu,pw.2⟩,fun k hk=>nameW hb.iss k (by omega),fun k hk=>nameW hb.sub k (by omega),fun k hk=>geW_of (hb.nms.2 k (by omega)),fun k hk=>geW_of (hb.per.2 k (by omega)),fun k hk=>geW_of (hb.den.2 k (by omega)),fun k hk=>?_,fun k hk=>?_,fun k hk=>?_,by omega,by omega,by omega,by omega,by omega,by omega,by omega,by omega,by omega⟩
 ·have:=hb.pol.2 k (by omega)
  exact w64_of (by omega) (by omega)
 ·have:=hb.maps.2 k (by omega)
  exact ⟨w64_of (by omega) (by omega),w64_of (by omega) (by omega)⟩
 ·have:=(hb.ext.2 k (by omega)).1
  exact w64_of (by omega) (by omega)
theorem ceS_of {w:World}{s:CES}{x:CE}(hr:CER w s x)(hu:U64 x.key.2.1)(h:ceP x):CeS s x:=by
 have hb:=ceB_of h
 have l1:=hr.r1.len; have l2:=hr.r2.len; have l3:=hr.r3.len; have l4:=hr.r4.len; have l5:=hr.r5.len; have l6:=hr.r6.len; have l7:=hr.r7.len; have l8:=hr.r8.len; have l9:=hr.r9.len
 have b1:=hb.iss.1; have b2:=hb.sub.1; have b3:=hb.nms.1; have b4:=hb.per.1; have b5:=hb.den.1; have b6:=hb.pol.1; have b7:=hb.maps.1; have b8:=hb.ext.1; have b9:=hb.sig
 refine ⟨by omega,by omega,by omega,by omega,by omega,by omega,by omega,by omega,by omega,hu,fun k hk=>?_,fun k hk=>?_,fun k hk=>geS_of (hb.nms.2 k (by omega)),fun k hk=>geS_of (hb.per.2 k (by omega)),fun k hk=>geS_of (hb.den.2 k (by omega)),fun k hk=>?_⟩
 ·have:=(hb.iss.2 k (by omega)).2.1; omega
 ·have:=(hb.sub.2 k (by omega)).2.1; omega
 ·have:=(hb.ext.2 k (by omega)).2; omega
open Go.RowKit
def anyP (sc y h:Int)(ms ss:List Int):Prop:=(sc=1∧gkP y h∧vgP y ms ss)∨(sc=2∧hbP h∧vtP y h ms ss)
instance (sc y h:Int) (ms ss:List Int):Decidable (anyP sc y h ms ss):=by unfold anyP; infer_instance
theorem implVerifyAny_any (sc y h:Int)(am:Option Addr)(n c:Nat)(ms:List Int)(ag:Option Addr)(ng cg:Nat)(ss:List Int)(w:World)(hy:U64 y)(hr:Row w am n ms)(hn:n≤1048576)(hc:am=none→c=0)(hg:Row w ag ng ss)(hng:ng≤1048576)(hcg:ng≤cg) :
  Calls Tryz.prog 64 #[kpv sc y h,.slice am n c,.slice ag ng cg] w fun e w'=>e=.returned (.bool (decide (anyP sc y h ms ss)))∧Below w.heap.size w w':=by
 obtain ⟨wb,hwb⟩:∃ wb,wb=w.alloc (.cells #[.int .i64 sc,.int .u64 y,.int .i64 h] 41):=⟨_,rfl⟩
 have hbb:Below w.heap.size w wb:=by rw [hwb]; exact (Below.refl _ _).alloc (Nat.le_refl _) _
 have hbx:wb.heap[w.heap.size]? = some (.cells #[.int .i64 sc,.int .u64 y,.int .i64 h] 41):=by rw [hwb]; exact heap_alloc_new _ _
 have hlw:w.heap.size<wb.heap.size:=(Array.getElem?_eq_some_iff.1 hbx).1
 have HX:Hid (∀ w7,Below wb.heap.size wb w7→w7.heap[w.heap.size]? = some (.cells #[.int .i64 sc,.int .u64 y,.int .i64 h] 41)):=fun w7 h7=>(h7.block _ hlw).trans hbx
 have HW:Hid (_=_):=hwb
 have HM:Hid (∀ w7,Below wb.heap.size wb w7→Row w7 am n ms):=fun w7 h7=>hr.kept (keepT hbb h7)
 have HG:Hid (∀ w7,Below wb.heap.size wb w7→Row w7 ag ng ss):=fun w7 h7=>hg.kept (keepT hbb h7)
 clear hwb hg hr hbx
 unfold kpv
 go_enter Tryz.func64,Tryz.ntmps64
 go_wp2_with fail
 rw [← HW.out]
 clear HW
 refine (pubScheme_any sc y h _ hy).mono ?_
 rintro e w2 ⟨rfl,hb2⟩
 have hs:=HX.out _ hb2
 have s0:w2.cell? ⟨w.heap.size,0,none⟩=some (.int .i64 sc):=qk hs rfl
 have s1:w2.cell? ⟨w.heap.size,1,none⟩=some (.int .u64 y):=qk hs rfl
 have s2:w2.cell? ⟨w.heap.size,2,none⟩=some (.int .i64 h):=qk hs rfl
 clear hs
 by_cases hp:pubP sc y h
 ·rw [decide_eq_true hp]
  rcases hp with ⟨h1,hp⟩ | ⟨h1,hp⟩
  ·subst h1
   have HV:Hid (decide (anyP 1 y h ms ss)=decide (vgP y ms ss)):=decide_eq_decide.2 ⟨fun a=>a.elim (fun a=>a.2.2) (fun a=>absurd a.1 (by decide)),fun a=>.inl ⟨rfl,hp,a⟩⟩
   have HI:Hid (ifvP 1=.iface 220 (.agg #[])):=rfl
   rw [HI.out]
   go_wp2_with fail
   refine (groupVerify_any 1 y h am n c ms ag ng cg ss _ (HM.out _ hb2) hn hc (HG.out _ hb2) hng hp.1).mono ?_
   rintro e w3 ⟨rfl,hb3⟩
   go_wp2
   go_ret
   exact ⟨by rw [HV.out]; rfl,keepT hbb (keepT hb2 hb3)⟩
  ·subst h1
   have HV:Hid (decide (anyP 2 y h ms ss)=decide (vtP y h ms ss)):=decide_eq_decide.2 ⟨fun a=>a.elim (fun a=>absurd a.1 (by decide)) (fun a=>a.2.2),fun a=>.inr ⟨rfl,hp,a⟩⟩
   have HI:Hid (ifvP 2=.iface 221 (.agg #[])):=rfl
   rw [HI.out]
   go_wp2_with fail
   refine (treeVerify_any 2 y h am n c ms ag ng cg ss _ (HM.out _ hb2) hn (HG.out _ hb2) hng hcg hp).mono ?_
   rintro e w3 ⟨rfl,hb3⟩
   go_wp2
   go_ret
   exact ⟨by rw [HV.out]; rfl,keepT hbb (keepT hb2 hb3)⟩
 ·have HV:Hid (decide (anyP sc y h ms ss)=false):=decide_eq_false (fun a=>hp (a.elim (fun a=>.inl ⟨a.1,a.2.1⟩) (fun a=>.inr ⟨a.1,a.2.1⟩)))
  rw [decide_eq_false hp]
  go_wp2
  go_ret
  exact ⟨by rw [HV.out]; rfl,keepT hbb hb2⟩
end Go.Proofs.YtmdfbnlgfhjnoaaGreatDoor
