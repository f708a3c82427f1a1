import Derived.Test.YtmdfbnlgfhjnoaaGreatDoorFA40
import Derived.Test.YtmdfbnlgfhjnoaaGreatDoorFA44
import Derived.Test.YtmdfbnlgfhjnoaaGreatDoorFA35
import Derived.Test.YtmdfbnlgfhjnoaaGreatDoorFA15
import Derived.Test.YtmdfbnlgfhjnoaaGreatDoorFA26
import Derived.Test.YtmdfbnlgfhjnoaaGreatDoorFA20
import Derived.Test.YtmdfbnlgfhjnoaaGreatDoorFA21
import Derived.Test.YtmdfbnlgfhjnoaaGreatDoorFA33
set_option maxRecDepth 10000
set_option maxHeartbeats 8000000
set_option linter.unusedVariables false
namespace Go.Proofs.YtmdfbnlgfhjnoaaGreatDoor
open Go.RowKit Go.Sort
def En (r:Nat)(x:It)(m:Nat):Prop:=∃ l,enc r x=some l∧l.length≤m
theorem En.le {r:Nat}{x:It}{m m':Nat}(h:En r x m)(hm:m≤m'):En r x m':=by
 obtain ⟨l,h1,h2⟩:=h
 exact ⟨l,h1,Nat.le_trans h2 hm⟩
theorem lenL_3 (n:Nat)(h:n<65536):(lenL n).length≤3:=by
 unfold lenL
 split
 ·simp
 ·split
  ·simp
  ·simp
theorem lenL_1 (n:Nat)(h:n<128):(lenL n).length≤1:=by
 unfold lenL
 rw [if_pos h]
 simp
theorem head_len (cls tag:Int)(co:Bool)(bs:List Int)(ks:List It)(n k:Nat)(h1:tag≤30)(hn:(lenL n).length≤k):(headL (.mk cls tag co bs ks) n).length≤k+1:=by
 unfold headL
 rw [List.length_append,if_pos (show (It.mk cls tag co bs ks).tag<31 by show tag<31; omega)]
 simp
 omega
def KL (r:Nat)(ks:List It)(m:Nat):Prop:=∀ acc:List Int,acc.length+m≤20000→∃ l,encK (enc r) acc ks=some l∧l.length≤acc.length+m
theorem KL.nil (r:Nat):KL r [] 0:=fun acc h=>⟨acc,rfl,by omega⟩
theorem KL.cons {r:Nat}{x:It}{xs:List It}{L m:Nat}(h:En r x L)(k:KL r xs m):KL r (x::xs) (L+m):=by
 intro acc hl
 obtain ⟨p,hp,hpl⟩:=h
 obtain ⟨l,h1,h2⟩:=k (acc++p) (by rw [List.length_append]; omega)
 refine ⟨l,?_,?_⟩
 ·rw [encK,hp]
  simp only
  rw [if_pos (by omega)]
  exact h1
 ·rw [List.length_append] at h2
  omega
theorem KL.le {r:Nat}{ks:List It}{m m':Nat}(h:KL r ks m)(hm:m≤m'):KL r ks m':=fun acc ha=>by
 obtain ⟨l,h1,h2⟩:=h acc (by omega)
 exact ⟨l,h1,by omega⟩
theorem KL.map {α:Type}{r:Nat}{f:α→It}{L:Nat}:∀ {xs:List α},(∀ x∈xs,En r (f x) L)→KL r (xs.map f) (xs.length * L)
 | [],_=>by simpa using KL.nil r
 | x::xs,h=>by
  have:=KL.cons (h x (List.mem_cons_self ..)) (KL.map (xs:=xs) (fun y hy=>h y (List.mem_cons_of_mem _ hy)))
  have e:(x::xs).length * L=L+xs.length * L:=by rw [List.length_cons,Nat.succ_mul]; omega
  rw [e]
  exact this
theorem En.box {r:Nat}{cls tag:Int}{ks:List It}{m:Nat}(hc:cls=0∨cls=1)(h0:1≤tag)(h1:tag≤30)(k:KL r ks m)(hm:m≤19990):En (r+1) (.mk cls tag true [] ks) (m+4):=by
 have hs:It.shape (.mk cls tag true [] ks)=true:=by
  unfold It.shape
  simp [It.cls,It.tag,It.cons,It.body]
  omega
 obtain ⟨l,e1,e2⟩:=k [] (by simp; omega)
 simp only [List.length_nil,Nat.zero_add] at e2
 have hi:innerBy (enc r) (.mk cls tag true [] ks)=some l:=by
  unfold innerBy
  rw [if_pos (show (It.mk cls tag true [] ks).cons=true from rfl)]
  exact e1
 have hh:=head_len cls tag true [] ks l.length 3 h1 (lenL_3 _ (by omega))
 exact ⟨_,enc_some r _ _ hs hi (by rw [List.length_append]; omega),by rw [List.length_append]; omega⟩
theorem leaf_en {r:Nat}{t:Int}{bs:List Int}{k:Nat}(h0:1≤t)(h1:t≤30)(hL:bs.length+(k+1)≤20000)(hk:(lenL bs.length).length≤k):En (r+1) (.mk 0 t false bs []) (bs.length+(k+1)):=by
 have hs:It.shape (.mk 0 t false bs [])=true:=by
  unfold It.shape
  simp [It.cls,It.tag,It.cons,It.kids]
  omega
 have hi:innerBy (enc r) (.mk 0 t false bs [])=some bs:=by
  unfold innerBy
  rw [if_neg (by simp [It.cons]),if_pos (by simp [It.body]; omega)]
  rfl
 have hh:=head_len 0 t false bs [] bs.length k h1 hk
 exact ⟨_,enc_some r _ bs hs hi (by rw [List.length_append]; omega),by rw [List.length_append]; omega⟩
theorem En.leaf2 {r:Nat}{t:Int}{bs:List Int}{L:Nat}(h0:1≤t)(h1:t≤30)(hb:bs.length≤L)(hL:L<128):En (r+1) (.mk 0 t false bs []) (L+2) :=
 (leaf_en h0 h1 (by omega) (lenL_1 _ (by omega))).le (by omega)
theorem En.leaf4 {r:Nat}{t:Int}{bs:List Int}{L:Nat}(h0:1≤t)(h1:t≤30)(hb:bs.length≤L)(hL:L≤19990):En (r+1) (.mk 0 t false bs []) (L+4) :=
 (leaf_en h0 h1 (by omega) (lenL_3 _ (by omega))).le (by omega)
theorem num_en (r:Nat)(n:Int):En (r+1) (numI n) 10:=En.leaf2 (L:=8) (by decide) (by decide) (by rw [wbL_len]; exact (wsz_bd n).2) (by decide)
theorem flg_en (r:Nat)(b:Bool):En (r+1) (flgI b) 3:=En.leaf2 (L:=1) (by decide) (by decide) (by simp) (by decide)
theorem par_en (r:Nat)(x:PT)(h:x.val.size≤60):En (r+2) (parI x) 76 :=
 En.box (m:=10+(62+0)) (.inl rfl) (by decide) (by decide) (.cons (num_en r _) (.cons (En.leaf2 (L:=60) (by decide) (by decide) (by rw [bytesOf_len]; exact h) (by decide)) (.nil _))) (by decide)
theorem mem_getD {α:Type}{d x:α}{xs:List α}(h:x∈xs):∃ k,k<xs.length∧xs.getD k d=x:=by
 obtain ⟨k,hk,e⟩:=List.mem_iff_getElem.1 h
 exact ⟨k,hk,by simp [hk,e]⟩
theorem nam_en (r:Nat)(xs:List PT)(h:nameP xs):En (r+4) (namI xs) 616:=by
 have h1:KL (r+2) (xs.map parI) 608:=(KL.map (L:=76) (fun x hx=>by
  obtain ⟨k,hk,e⟩:=mem_getD (d:=default) hx
  exact par_en r x (by rw [← e]; exact (h.2 k hk).2.1))).le (by have:=h.1; omega)
 exact En.box (m:=612+0) (.inl rfl) (by decide) (by decide) (.cons (En.box (m:=608) (.inl rfl) (by decide) (by decide) h1 (by decide)) (.nil _)) (by decide)
def GeB (y:GE):Prop:=(1≤y.g.kind∧y.g.kind≤4)∧(0≤y.g.addr∧y.g.addr≤4294967295)∧(0≤y.g.bits∧y.g.bits≤32)∧nameP y.parts∧((y.parts.length=0∧y.g.text.size≤121)∨y.g.text.size=0)
theorem name_none {xs:List PT}(h:xs.length=0):nameP xs:=⟨by omega,fun k hk=>by omega⟩
theorem mail_size {s:ByteArray}(h:mailP s):s.size≤121:=by
 obtain ⟨j,r,h1,h2,h3,h4⟩:=cut_head s 64
 rcases h4 with ⟨hr,hj⟩ | ⟨_,hj,hc⟩
 ·obtain ⟨a,b,hab,_⟩:=h
  rw [h1,hr] at hab
  simp at hab
 ·have h5:=(mailP_iff hj hc h3).1 h
  have h6:=h5.1.1.2
  have h7:=h5.2.1
  rw [ByteArray.size_extract] at h6 h7
  omega
theorem gen_bd {y:GE}(h:genP y.g y.parts):GeB y:=by
 rcases h with ⟨k,⟨a,b,n⟩,t⟩ | ⟨k,⟨a,b,n⟩,t⟩ | ⟨k,⟨t,n⟩,a,b⟩ | ⟨k,⟨t,a,b⟩,n,_⟩
 ·exact ⟨by omega,by omega,by omega,name_none n,.inl ⟨n,by have:=t.1; omega⟩⟩
 ·exact ⟨by omega,by omega,by omega,name_none n,.inl ⟨n,mail_size t⟩⟩
 ·exact ⟨by omega,by omega,by omega,name_none n,.inr t⟩
 ·exact ⟨by omega,by omega,by omega,n,.inr t⟩
theorem base_bd {y:GE}(h:baseP y.g y.parts):GeB y:=by
 rcases h with ⟨k,⟨a,b,n⟩,t⟩ | ⟨k,⟨a,b,n⟩,t⟩ | ⟨k,⟨t,n⟩,a,b,_⟩ | ⟨k,⟨t,a,b⟩,n⟩
 ·exact ⟨by omega,by omega,by omega,name_none n,.inl ⟨n,by have:=t.1; omega⟩⟩
 ·refine ⟨by omega,by omega,by omega,name_none n,.inl ⟨n,?_⟩⟩
  rcases t with t | t | ⟨_,_,t⟩
  ·exact mail_size t
  ·have:=t.1; omega
  ·have:=t.1
   rw [ByteArray.size_extract] at this
   omega
 ·exact ⟨by omega,by omega,b,name_none n,.inr t⟩
 ·exact ⟨by omega,by omega,by omega,n,.inr t⟩
theorem gne_en (r:Nat)(y:GE)(h:GeB y):En (r+5) (gneI y) 652:=by
 rcases h with ⟨_,_,_,hn,ht⟩
 rcases ht with ⟨h0,ht⟩ | ht
 ·have hp:y.parts = []:=List.eq_nil_of_length_eq_zero h0
  have h1:KL (r+2) (y.parts.map parI) 0:=by rw [hp]; exact .nil _
  have h2:En (r+4) (namI y.parts) 8:=En.box (m:=4+0) (.inl rfl) (by decide) (by decide) (.cons (En.box (m:=0) (.inl rfl) (by decide) (by decide) h1 (by decide)) (.nil _)) (by decide)
  exact (En.box (m:=10+(123+(10+(10+(8+0))))) (.inl rfl) (by decide) (by decide) (.cons (num_en _ _) (.cons (En.leaf2 (L:=121) (by decide) (by decide) (by rw [bytesOf_len]; exact ht) (by decide)) (.cons (num_en _ _) (.cons (num_en _ _) (.cons h2 (.nil _)))))) (by decide)).le (by decide)
 ·exact (En.box (m:=10+(2+(10+(10+(616+0))))) (.inl rfl) (by decide) (by decide) (.cons (num_en _ _) (.cons (En.leaf2 (L:=0) (by decide) (by decide) (by rw [bytesOf_len]; omega) (by decide)) (.cons (num_en _ _) (.cons (num_en _ _) (.cons (nam_en r _ hn) (.nil _)))))) (by decide)).le (by decide)
def GesB (xs:List GE):Prop:=xs.length≤8∧∀ k,k<xs.length→GeB (xs.getD k default)
theorem ges_en (r:Nat)(xs:List GE)(h:GesB xs):En (r+6) (lstI (xs.map gneI)) 5220:=by
 have h1:KL (r+5) (xs.map gneI) 5216:=(KL.map (L:=652) (fun x hx=>by
  obtain ⟨k,hk,e⟩:=mem_getD (d:=default) hx
  exact gne_en r x (by rw [← e]; exact h.2 k hk))).le (by have:=h.1; omega)
 exact En.box (m:=5216) (.inl rfl) (by decide) (by decide) h1 (by decide)
theorem key_en (r:Nat)(p:Int × Int × Int):En (r+2) (kyI p) 34 :=
 En.box (m:=10+(10+(10+0))) (.inl rfl) (by decide) (by decide) (.cons (num_en _ _) (.cons (En.leaf2 (L:=8) (by decide) (by decide) (by rw [eightI_len]; decide) (by decide)) (.cons (num_en _ _) (.nil _)))) (by decide)
theorem map_en (r:Nat)(p:Int × Int):En (r+2) (mapI p) 24 :=
 En.box (m:=10+(10+0)) (.inl rfl) (by decide) (by decide) (.cons (num_en _ _) (.cons (num_en _ _) (.nil _))) (by decide)
theorem ext_en (r:Nat)(x:XP)(h:x.val.length≤30):En (r+2) (exI x) 49 :=
 En.box (m:=10+(3+(32+0))) (.inl rfl) (by decide) (by decide) (.cons (num_en _ _) (.cons (flg_en _ _) (.cons (En.leaf2 (L:=30) (by decide) (by decide) h (by decide)) (.nil _)))) (by decide)
structure CeB (x:CE):Prop where
 iss:nameP x.iss
 sub:nameP x.sub
 nms:GesB x.nms
 per:GesB x.per
 den:GesB x.den
 pol:x.pol.length≤6∧∀ k,k<x.pol.length→0≤x.pol.getD k 0∧x.pol.getD k 0≤1000
 maps:x.maps.length≤6∧∀ k,k<x.maps.length→((1≤(x.maps.getD k (0,0)).1∧(x.maps.getD k (0,0)).1≤1000)∧(1≤(x.maps.getD k (0,0)).2∧(x.maps.getD k (0,0)).2≤1000))
 ext:x.ext.length≤4∧∀ k,k<x.ext.length→(1≤(x.ext.getD k default).id∧(x.ext.getD k default).id≤1000)∧(x.ext.getD k default).val.length≤30
 sig:x.sig.length≤500
 lim:limP x.room∧limP x.need∧limP x.nomap∧limP x.noany
theorem gens_b {xs:List GE}(h:gensP xs xs.length):GesB xs:=⟨h.1,fun k hk=>gen_bd (h.2 k hk)⟩
theorem bases_b {xs:List GE}(h:basesP xs xs.length):GesB xs:=⟨h.1,fun k hk=>base_bd (h.2 k hk)⟩
theorem ges_none {xs:List GE}(h:xs.length=0):GesB xs:=⟨by omega,fun k hk=>by omega⟩
theorem ceB_of {x:CE}(h:ceP x):CeB x:=by
 obtain ⟨_,hi,hs,_,_,_,hp,he,hg,ha⟩:=h
 have hx:x.ext.length≤4∧∀ k,k<x.ext.length→(1≤(x.ext.getD k default).id∧(x.ext.getD k default).id≤1000)∧(x.ext.getD k default).val.length≤30:=⟨he.1,fun k hk=>⟨(he.2 k hk).1,(he.2 k hk).2.2⟩⟩
 cases hc:x.ca with
 | false =>
  obtain ⟨a,b,c,d,e,f,g⟩:=ha.1 hc
  exact ⟨hi.1,hs.1,gens_b hs.2.2,ges_none e,ges_none f,⟨hp.1,hp.2.1⟩,⟨by omega,fun k hk=>by omega⟩,hx,hg,by unfold limP; omega⟩
 | true =>
  obtain ⟨a,b,c,d,e,f,g⟩:=ha.2 hc
  exact ⟨hi.1,hs.1,gens_b hs.2.2,bases_b e,bases_b f,⟨hp.1,hp.2.1⟩,⟨g.1,fun k hk=>g.2 k hk⟩,hx,hg,a,b,c,d⟩
theorem body_en (r:Nat)(x:CE)(h:CeB x):En (r+7) (boxI 1 (ceK x)) 17425:=by
 have hp:En (r+6) (lstI (x.pol.map numI)) 64:=En.box (m:=60) (.inl rfl) (by decide) (by decide) ((KL.map (L:=10) (fun y _=>num_en _ y)).le (by have:=h.pol.1; omega)) (by decide)
 have hm:En (r+6) (lstI (x.maps.map mapI)) 148:=En.box (m:=144) (.inl rfl) (by decide) (by decide) ((KL.map (L:=24) (fun y _=>map_en _ y)).le (by have:=h.maps.1; omega)) (by decide)
 have he:En (r+6) (lstI (x.ext.map exI)) 200:=En.box (m:=196) (.inl rfl) (by decide) (by decide) ((KL.map (L:=49) (fun y hy=>by
  obtain ⟨k,hk,e⟩:=mem_getD (d:=default) hy
  exact ext_en _ y (by rw [← e]; exact (h.ext.2 k hk).2))).le (by have:=h.ext.1; omega)) (by decide)
 have N:∀ n,En (r+6) (numI n) 10:=fun n=>num_en _ n
 refine En.box (m:=17421) (.inr rfl) (by decide) (by decide) ?_ (by decide)
 refine KL.le (m:=10+(616+(616+(10+(10+(34+(3+(10+(10+(5220+(5220+(5220+(64+(148+(10+(10+(10+(200+0)))))))))))))))))) ?_ (by omega)
 exact (.cons (N _) (.cons (nam_en _ _ h.iss) (.cons (nam_en _ _ h.sub) (.cons (N _) (.cons (N _) (.cons (key_en _ _) (.cons (flg_en _ _) (.cons (N _) (.cons (N _) (.cons (ges_en r _ h.nms) (.cons (ges_en r _ h.per) (.cons (ges_en r _ h.den) (.cons hp (.cons hm (.cons (N _) (.cons (N _) (.cons (N _) (.cons he (.nil _)))))))))))))))))))
theorem cert_en (r:Nat)(x:CE)(h:CeB x):En (r+8) (boxI 2 [boxI 1 (ceK x),bytI x.sig]) 17933 :=
 En.box (m:=17425+(504+0)) (.inr rfl) (by decide) (by decide) (.cons (body_en r x h) (.cons (En.leaf4 (L:=500) (by decide) (by decide) h.sig (by decide)) (.nil _))) (by decide)
def ceBody (x:CE):List Int:=(enc 12 (boxI 1 (ceK x))).getD []
def ceBytes (x:CE):List Int:=(enc 12 (boxI 2 [boxI 1 (ceK x),bytI x.sig])).getD []
theorem en_getD {r:Nat}{x:It}{m:Nat}(h:En r x m):enc r x=some ((enc r x).getD [])∧((enc r x).getD []).length≤m:=by
 obtain ⟨l,h1,h2⟩:=h
 rw [h1]
 exact ⟨rfl,h2⟩
theorem ceBody_enc {x:CE}(h:ceP x):enc 12 (boxI 1 (ceK x))=some (ceBody x)∧(ceBody x).length≤17425:=en_getD (body_en 5 x (ceB_of h))
theorem ceBytes_enc {x:CE}(h:ceP x):enc 12 (boxI 2 [boxI 1 (ceK x),bytI x.sig])=some (ceBytes x)∧(ceBytes x).length≤17933:=en_getD (cert_en 4 x (ceB_of h))
theorem w64_of {n:Int}(h0 : -9223372036854775808≤n)(h1:n≤9223372036854775807):W64 n:=⟨h0,h1⟩
theorem nameW {xs:List PT}(h:nameP xs):∀ k,k<xs.length→W64 (xs.getD k default).attr:=fun k hk=>by have:=(h.2 k hk).1; exact w64_of (by omega) (by omega)
theorem geW_of {y:GE}(h:GeB y):GeW y:=by
 obtain ⟨h1,h2,h3,hn,_⟩:=h
 exact ⟨⟨w64_of (by omega) (by omega),w64_of (by omega) (by omega),w64_of (by omega) (by omega)⟩,nameW hn,by have:=hn.1; omega⟩
theorem geS_of {y:GE}(h:GeB y):GeS y:=by
 obtain ⟨_,_,_,hn,ht⟩:=h
 exact ⟨by omega,by have:=hn.1; omega,fun k hk=>by have:=(hn.2 k hk).2.1; omega⟩
theorem pub_w {p:Int × Int × Int}(h:pubP p.1 p.2.1 p.2.2):W64 p.1∧W64 p.2.2:=by
 rcases h with ⟨h1,h2⟩ | ⟨h1,h2⟩
 ·have:=h2.2
  exact ⟨w64_of (by omega) (by omega),w64_of (by omega) (by omega)⟩
 ·have h3:0≤p.2.2∧p.2.2≤5:=h2
  exact ⟨w64_of (by omega) (by omega),w64_of (by omega) (by omega)⟩
theorem ceW_of {w:World}{s:CES}{x:CE}(hr:CER w s x)(hu:U64 x.key.2.1)(h:ceP x):CeW s x:=by
 have hb:=ceB_of h
 obtain ⟨h1,_,_,⟨h4,h5,_⟩,h6,h7,_⟩:=h
 have l1:=hr.r1.len; have l2:=hr.r2.len; have l3:=hr.r3.len; have l4:=hr.r4.len; have l5:=hr.r5.len; have l6:=hr.r6.len; have l7:=hr.r7.len; have l8:=hr.r8.len; have l9:=hr.r9.len
 have b1:=hb.iss.1; have b2:=hb.sub.1; have b3:=hb.nms.1; have b4:=hb.per.1; have b5:=hb.den.1; have b6:=hb.pol.1; have b7:=hb.maps.1; have b8:=hb.ext.1; have b9:=hb.sig
 obtain ⟨q1,q2,q3,q4⟩:=hb.lim
 unfold limP at q1 q2 q3 q4
 have pw:=pub_w h6
 refine ⟨w64_of (by omega) (by omega),w64_of (by omega) (by omega),w64_of (by omega) (by omega),w64_of (by omega) (by omega),w64_of (by omega) (by omega),w64_of (by omega) (by omega),w64_of (by omega) (by omega),w64_of (by omega) (by omega),⟨pw.1,hu,pw.2⟩,fun k hk=>nameW hb.iss k (by omega),fun k hk=>nameW hb.sub k (by omega),fun k hk=>geW_of (hb.nms.2 k (by omega)),fun k hk=>geW_of (hb.per.2 k (by omega)),fun k hk=>geW_of (hb.den.2 k (by omega)),fun k hk=>?_,fun k hk=>?_,fun k hk=>?_,by omega,by omega,by omega,by omega,by omega,by omega,by omega,by omega,by omega⟩
 ·have:=hb.pol.2 k (by omega)
  exact w64_of (by omega) (by omega)
 ·have:=hb.maps.2 k (by omega)
  exact ⟨w64_of (by omega) (by omega),w64_of (by omega) (by omega)⟩
 ·have:=(hb.ext.2 k (by omega)).1
  exact w64_of (by omega) (by omega)
theorem ceS_of {w:World}{s:CES}{x:CE}(hr:CER w s x)(hu:U64 x.key.2.1)(h:ceP x):CeS s x:=by
 have hb:=ceB_of h
 have l1:=hr.r1.len; have l2:=hr.r2.len; have l3:=hr.r3.len; have l4:=hr.r4.len; have l5:=hr.r5.len; have l6:=hr.r6.len; have l7:=hr.r7.len; have l8:=hr.r8.len; have l9:=hr.r9.len
 have b1:=hb.iss.1; have b2:=hb.sub.1; have b3:=hb.nms.1; have b4:=hb.per.1; have b5:=hb.den.1; have b6:=hb.pol.1; have b7:=hb.maps.1; have b8:=hb.ext.1; have b9:=hb.sig
 refine ⟨by omega,by omega,by omega,by omega,by omega,by omega,by omega,by omega,by omega,hu,fun k hk=>?_,fun k hk=>?_,fun k hk=>geS_of (hb.nms.2 k (by omega)),fun k hk=>geS_of (hb.per.2 k (by omega)),fun k hk=>geS_of (hb.den.2 k (by omega)),fun k hk=>?_⟩
 ·have:=(hb.iss.2 k (by omega)).2.1; omega
 ·have:=(hb.sub.2 k (by omega)).2.1; omega
 ·have:=(hb.ext.2 k (by omega)).2; omega
open Go.RowKit
theorem spanOk_c (s t:Int)(w:World):Calls Tryz.prog 96 #[.int .i64 s,.int .i64 t] w fun e w'=>e=.returned (.bool (decide ((0≤s∧s≤253402300799)∧(0≤t∧t≤253402300799)∧s≤t)))∧w=w':=by
 by_cases h1:0≤s∧s≤253402300799
 case neg =>
  have HN:Hid (decide ((0≤s∧s≤253402300799)∧(0≤t∧t≤253402300799)∧s≤t)=false):=decide_eq_false (fun q=>h1 q.1)
  go_enter Tryz.func96,Tryz.ntmps96
  go_wp2_with fail
  refine (isTime_any s _).mono ?_
  rintro e w9 ⟨rfl,hw9⟩
  subst hw9
  rw [decide_eq_false h1]
  clear h1
  go_wp2
  go_ret
  exact ⟨by rw [HN.out]; rfl,rfl⟩
 by_cases h2:0≤t∧t≤253402300799
 case neg =>
  have HN:Hid (decide ((0≤s∧s≤253402300799)∧(0≤t∧t≤253402300799)∧s≤t)=false):=decide_eq_false (fun q=>h2 q.2.1)
  go_enter Tryz.func96,Tryz.ntmps96
  go_wp2_with fail
  refine (isTime_any s _).mono ?_
  rintro e w9 ⟨rfl,hw9⟩
  subst hw9
  rw [decide_eq_true h1]
  clear h1
  go_wp2_with fail
  refine (isTime_any t _).mono ?_
  rintro e w9 ⟨rfl,hw9⟩
  subst hw9
  rw [decide_eq_false h2]
  clear h2
  go_wp2
  go_ret
  exact ⟨by rw [HN.out]; rfl,rfl⟩
 have HN:Hid (decide ((0≤s∧s≤253402300799)∧(0≤t∧t≤253402300799)∧s≤t)=decide (s≤t)):=decide_eq_decide.2 ⟨fun q=>q.2.2,fun q=>⟨h1,h2,q⟩⟩
 go_enter Tryz.func96,Tryz.ntmps96
 go_wp2_with fail
 refine (isTime_any s _).mono ?_
 rintro e w9 ⟨rfl,hw9⟩
 subst hw9
 rw [decide_eq_true h1]
 clear h1
 go_wp2_with fail
 refine (isTime_any t _).mono ?_
 rintro e w9 ⟨rfl,hw9⟩
 subst hw9
 rw [decide_eq_true h2]
 clear h2
 go_wp2
 go_ret
 exact ⟨by rw [HN.out]; rfl,rfl⟩
theorem infoSizeC7:(Tryz.prog.info? 46).map (·.size)=some 21:=by kernel_rfl
theorem wpList_take {P:Program}{ops:Array Oper}{rest:List Oper}{o:Oper}{a:Act}{w:World}{Q:Exit→Act→World→Prop}(j:Nat)(want:Bool)(s:Nat)(hg:o.guard=some (j,want))(hd:(ops[j]?).bind (·.dst)=some s)(hv:aT a s=.bool want)(h:∀ K:Act→World→Prop,(∀ a w,wpList P ops Q rest a w→K a w)→o.wp P a w K Q):wpList P ops Q (o::rest) a w:=wpList_step fun K hK=>rk_take j want s hg hd hv (h K hK)
theorem implCertOk_any (s:CES)(x:CE)(w:World)(hm:MaxW w)(h:CER w s x)(hz:CEZ x)(ht:CET s)(hu:U64 x.key.2.1) :
  Calls Tryz.prog 44 #[CEv s x] w (Says (ceP x) w):=by
 obtain ⟨a1,n1,c1,a2,n2,c2,a3,n3,c3,a4,n4,c4,a5,n5,c5,a6,n6,c6,a7,n7,c7,a8,n8,c8,a9,n9,c9⟩:=s
 have HK:Hid (CER w ⟨a1,n1,c1,a2,n2,c2,a3,n3,c3,a4,n4,c4,a5,n5,c5,a6,n6,c6,a7,n7,c7,a8,n8,c8,a9,n9,c9⟩ x):=h
 have HZ:Hid ((n1≤1048576∧(∀ k,k<n1→(x.iss.getD k default).val.size≤1048576))∧(n2≤1048576∧(∀ k,k<n2→(x.sub.getD k default).val.size≤1048576))∧(n3≤1048576∧(∀ k,k<n3→GeOk (x.nms.getD k default)))∧(n4≤1048576∧(∀ k,k<n4→GeOk (x.per.getD k default)))∧(n5≤1048576∧(∀ k,k<n5→GeOk (x.den.getD k default)))∧(n6≤1048576)∧(n7≤1048576)∧(n8≤1048576∧(∀ k,k<n8→XPZ (x.ext.getD k default)))∧(n9≤1048576)):=h.zn.1 hz
 have HL1:Hid (x.iss.length=n1):=h.r1.len
 have HL2:Hid (x.sub.length=n2):=h.r2.len
 have HL3:Hid (x.nms.length=n3):=h.r3.len
 have HL4:Hid (x.per.length=n4):=h.r4.len
 have HL5:Hid (x.den.length=n5):=h.r5.len
 have HL6:Hid (x.pol.length=n6):=h.r6.len
 have HL7:Hid (x.maps.length=n7):=h.r7.len
 have HL8:Hid (x.ext.length=n8):=h.r8.len
 have HL9:Hid (x.sig.length=n9):=h.r9.len
 have HKN:Hid (∀ W,Below w.heap.size w W→CER W ⟨a1,n1,c1,a2,n2,c2,a3,n3,c3,a4,n4,c4,a5,n5,c5,a6,n6,c6,a7,n7,c7,a8,n8,c8,a9,n9,c9⟩ x):=fun W hW=>h.kept hW
 have HX6:Hid (n6≤9223372036854775807):=h.m6
 have HX9:Hid (n9≤9223372036854775807):=h.m9
 have HM:Hid (MaxW w):=hm
 have HTI:Hid (CET ⟨a1,n1,c1,a2,n2,c2,a3,n3,c3,a4,n4,c4,a5,n5,c5,a6,n6,c6,a7,n7,c7,a8,n8,c8,a9,n9,c9⟩):=ht
 have HAU:Hid (∀ W,Below w.heap.size w W→Calls Tryz.prog 99 #[.agg #[.int .i64 x.ser,.slice a1 n1 c1,.slice a2 n2 c2,.int .i64 x.frm,.int .i64 x.til,.int .i64 x.key.1,.int .u64 x.key.2.1,.int .i64 x.key.2.2,.bool x.ca,.int .i64 x.room,.int .i64 x.uses,.slice a3 n3 c3,.slice a4 n4 c4,.slice a5 n5 c5,.slice a6 n6 c6,.slice a7 n7 c7,.int .i64 x.need,.int .i64 x.nomap,.int .i64 x.noany,.slice a8 n8 c8,.slice a9 n9 c9]] W (Says (authP x) W)):=fun W hW=>authorityOk_any ⟨a1,n1,c1,a2,n2,c2,a3,n3,c3,a4,n4,c4,a5,n5,c5,a6,n6,c6,a7,n7,c7,a8,n8,c8,a9,n9,c9⟩ x W (hm.kept hW) (h.kept hW) hz
 clear h hz hm ht
 show Calls Tryz.prog 44 #[.agg #[.int .i64 x.ser,.slice a1 n1 c1,.slice a2 n2 c2,.int .i64 x.frm,.int .i64 x.til,.int .i64 x.key.1,.int .u64 x.key.2.1,.int .i64 x.key.2.2,.bool x.ca,.int .i64 x.room,.int .i64 x.uses,.slice a3 n3 c3,.slice a4 n4 c4,.slice a5 n5 c5,.slice a6 n6 c6,.slice a7 n7 c7,.int .i64 x.need,.int .i64 x.nomap,.int .i64 x.noany,.slice a8 n8 c8,.slice a9 n9 c9]] w _
 obtain ⟨w0,hw0⟩:∃ w0,w0=w.alloc (.cells #[.int .i64 x.ser,.slice a1 n1 c1,.slice a2 n2 c2,.int .i64 x.frm,.int .i64 x.til,.int .i64 x.key.1,.int .u64 x.key.2.1,.int .i64 x.key.2.2,.bool x.ca,.int .i64 x.room,.int .i64 x.uses,.slice a3 n3 c3,.slice a4 n4 c4,.slice a5 n5 c5,.slice a6 n6 c6,.slice a7 n7 c7,.int .i64 x.need,.int .i64 x.nomap,.int .i64 x.noany,.slice a8 n8 c8,.slice a9 n9 c9] 46):=⟨_,rfl⟩
 have B0:Hid (Below w.heap.size w w0):=by show Below _ _ _; rw [hw0]; exact (Below.refl _ _).alloc (Nat.le_refl _) _
 have Y0:Hid (w0.heap[w.heap.size]? = some (.cells #[.int .i64 x.ser,.slice a1 n1 c1,.slice a2 n2 c2,.int .i64 x.frm,.int .i64 x.til,.int .i64 x.key.1,.int .u64 x.key.2.1,.int .i64 x.key.2.2,.bool x.ca,.int .i64 x.room,.int .i64 x.uses,.slice a3 n3 c3,.slice a4 n4 c4,.slice a5 n5 c5,.slice a6 n6 c6,.slice a7 n7 c7,.int .i64 x.need,.int .i64 x.nomap,.int .i64 x.noany,.slice a8 n8 c8,.slice a9 n9 c9] 46)):=by show _=_; rw [hw0]; exact heap_alloc_new w _
 go_enter Tryz.func44,Tryz.ntmps44
 go_upto_region 1 with fail
 rw [← hw0]
 clear hw0
 have p0:w0.cell? ⟨w.heap.size,0,none⟩=some (.int .i64 x.ser):=(cell_of_row _ _ 0 _ 46 (0,0) Y0.out).trans rfl
 go_wp2_with fail
 by_cases q1:1≤x.ser∧x.ser≤4611686018427387904
 case neg =>
  refine (inBounds_any x.ser 1 4611686018427387904 _).mono ?_
  rintro e w9_ ⟨rfl,hw9⟩
  subst hw9
  rw [decide_eq_false q1]
  have HN:Hid (¬ ceP x):=fun q=>q1 q.1
  clear q1
  go_wp2
  go_ret
  exact says_f HN.out B0.out
 refine (inBounds_any x.ser 1 4611686018427387904 _).mono ?_
 rintro e w9_ ⟨rfl,hw9⟩
 subst hw9
 rw [decide_eq_true q1]
 have Hq1:Hid (1≤x.ser∧x.ser≤4611686018427387904):=q1
 clear q1
 have p1:w0.cell? ⟨w.heap.size,1,none⟩=some (.slice a1 n1 c1):=(cell_of_row _ _ 1 _ 46 (0,0) Y0.out).trans rfl
 go_wp2_with fail
 refine (someName_any a1 n1 c1 x.iss _ ((HKN.out _ B0.out).r1) HZ.out.1.2).mono ?_
 rintro e w1 ⟨v_,rfl,hv_,hb_⟩
 have B1:Hid (Below w.heap.size w w1):=B0.out.trans (hb_.mono B0.out.size)
 have Y1:Hid (w1.heap[w.heap.size]? = some (.cells #[.int .i64 x.ser,.slice a1 n1 c1,.slice a2 n2 c2,.int .i64 x.frm,.int .i64 x.til,.int .i64 x.key.1,.int .u64 x.key.2.1,.int .i64 x.key.2.2,.bool x.ca,.int .i64 x.room,.int .i64 x.uses,.slice a3 n3 c3,.slice a4 n4 c4,.slice a5 n5 c5,.slice a6 n6 c6,.slice a7 n7 c7,.int .i64 x.need,.int .i64 x.nomap,.int .i64 x.noany,.slice a8 n8 c8,.slice a9 n9 c9] 46)):=(hb_.block _ (Array.getElem?_eq_some_iff.1 Y0.out).1).trans Y0.out
 have HV:Hid _:=hv_
 clear hv_ hb_
 clear p0 p1
 rcases v_ with _ | _
 ·have HN:Hid (¬ ceP x):=fun q=>by have:=HV.out.2 (q.2.1); cases this
  go_wp2
  go_ret
  exact says_f HN.out B1.out
 have Hq2:Hid (calledP x.iss):=HV.out.1 rfl
 clear HV
 have p2:w1.cell? ⟨w.heap.size,2,none⟩=some (.slice a2 n2 c2):=(cell_of_row _ _ 2 _ 46 (0,0) Y1.out).trans rfl
 have p11:w1.cell? ⟨w.heap.size,11,none⟩=some (.slice a3 n3 c3):=(cell_of_row _ _ 11 _ 46 (0,0) Y1.out).trans rfl
 go_wp2_with fail
 refine (ownerOk_any a2 n2 c2 x.sub a3 n3 c3 x.nms _ (HM.out.kept B1.out) ((HKN.out _ B1.out).r2) HZ.out.2.1.2 ((HKN.out _ B1.out).r3) HZ.out.2.2.1.2 HZ.out.2.1.1 HZ.out.2.2.1.1).mono ?_
 rintro e w2 ⟨v_,rfl,hv_,hb_⟩
 have B2:Hid (Below w.heap.size w w2):=B1.out.trans (hb_.mono B1.out.size)
 have Y2:Hid (w2.heap[w.heap.size]? = some (.cells #[.int .i64 x.ser,.slice a1 n1 c1,.slice a2 n2 c2,.int .i64 x.frm,.int .i64 x.til,.int .i64 x.key.1,.int .u64 x.key.2.1,.int .i64 x.key.2.2,.bool x.ca,.int .i64 x.room,.int .i64 x.uses,.slice a3 n3 c3,.slice a4 n4 c4,.slice a5 n5 c5,.slice a6 n6 c6,.slice a7 n7 c7,.int .i64 x.need,.int .i64 x.nomap,.int .i64 x.noany,.slice a8 n8 c8,.slice a9 n9 c9] 46)):=(hb_.block _ (Array.getElem?_eq_some_iff.1 Y1.out).1).trans Y1.out
 have HV:Hid _:=hv_
 clear hv_ hb_
 clear p2 p11
 rcases v_ with _ | _
 ·have HN:Hid (¬ ceP x):=fun q=>by have:=HV.out.2 (q.2.2.1); cases this
  go_wp2
  go_ret
  exact says_f HN.out B2.out
 have Hq3:Hid (ownP x.sub x.nms):=HV.out.1 rfl
 clear HV
 have p3:w2.cell? ⟨w.heap.size,3,none⟩=some (.int .i64 x.frm):=(cell_of_row _ _ 3 _ 46 (0,0) Y2.out).trans rfl
 have p4:w2.cell? ⟨w.heap.size,4,none⟩=some (.int .i64 x.til):=(cell_of_row _ _ 4 _ 46 (0,0) Y2.out).trans rfl
 go_wp2_with fail
 by_cases q4:(0≤x.frm∧x.frm≤253402300799)∧(0≤x.til∧x.til≤253402300799)∧x.frm≤x.til
 case neg =>
  refine (spanOk_c x.frm x.til _).mono ?_
  rintro e w9_ ⟨rfl,hw9⟩
  subst hw9
  rw [decide_eq_false q4]
  have HN:Hid (¬ ceP x):=fun q=>q4 q.2.2.2.1
  clear q4
  go_wp2
  go_ret
  exact says_f HN.out B2.out
 refine (spanOk_c x.frm x.til _).mono ?_
 rintro e w9_ ⟨rfl,hw9⟩
 subst hw9
 rw [decide_eq_true q4]
 have Hq4:Hid ((0≤x.frm∧x.frm≤253402300799)∧(0≤x.til∧x.til≤253402300799)∧x.frm≤x.til):=q4
 clear q4
 have p5:w2.cell? ⟨w.heap.size,5,none⟩=some (.int .i64 x.key.1):=(cell_of_row _ _ 5 _ 46 (0,0) Y2.out).trans rfl
 have p6:w2.cell? ⟨w.heap.size,6,none⟩=some (.int .u64 x.key.2.1):=(cell_of_row _ _ 6 _ 46 (0,0) Y2.out).trans rfl
 have p7:w2.cell? ⟨w.heap.size,7,none⟩=some (.int .i64 x.key.2.2):=(cell_of_row _ _ 7 _ 46 (0,0) Y2.out).trans rfl
 go_wp2_with fail
 refine (pubOk_any x.key.1 x.key.2.1 x.key.2.2 _ hu).mono ?_
 rintro e w3 ⟨rfl,hb_⟩
 have B3:Hid (Below w.heap.size w w3):=B2.out.trans (hb_.mono B2.out.size)
 have Y3:Hid (w3.heap[w.heap.size]? = some (.cells #[.int .i64 x.ser,.slice a1 n1 c1,.slice a2 n2 c2,.int .i64 x.frm,.int .i64 x.til,.int .i64 x.key.1,.int .u64 x.key.2.1,.int .i64 x.key.2.2,.bool x.ca,.int .i64 x.room,.int .i64 x.uses,.slice a3 n3 c3,.slice a4 n4 c4,.slice a5 n5 c5,.slice a6 n6 c6,.slice a7 n7 c7,.int .i64 x.need,.int .i64 x.nomap,.int .i64 x.noany,.slice a8 n8 c8,.slice a9 n9 c9] 46)):=(hb_.block _ (Array.getElem?_eq_some_iff.1 Y2.out).1).trans Y2.out
 clear hb_
 clear p3 p4 p5 p6 p7
 by_cases q5:pubP x.key.1 x.key.2.1 x.key.2.2
 case neg =>
  rw [decide_eq_false q5]
  have HN:Hid (¬ ceP x):=fun q=>q5 (q.2.2.2.2.1)
  clear q5
  go_wp2
  go_ret
  exact says_f HN.out B3.out
 rw [decide_eq_true q5]
 have Hq5:Hid (pubP x.key.1 x.key.2.1 x.key.2.2):=q5
 clear q5
 have p10:w3.cell? ⟨w.heap.size,10,none⟩=some (.int .i64 x.uses):=(cell_of_row _ _ 10 _ 46 (0,0) Y3.out).trans rfl
 go_wp2_with fail
 by_cases q6:0≤x.uses∧x.uses≤255
 case neg =>
  refine (inBounds_any x.uses 0 255 _).mono ?_
  rintro e w9_ ⟨rfl,hw9⟩
  subst hw9
  rw [decide_eq_false q6]
  have HN:Hid (¬ ceP x):=fun q=>q6 q.2.2.2.2.2.1
  clear q6
  go_wp2
  go_ret
  exact says_f HN.out B3.out
 refine (inBounds_any x.uses 0 255 _).mono ?_
 rintro e w9_ ⟨rfl,hw9⟩
 subst hw9
 rw [decide_eq_true q6]
 have Hq6:Hid (0≤x.uses∧x.uses≤255):=q6
 clear q6
 have p14:w3.cell? ⟨w.heap.size,14,none⟩=some (.slice a6 n6 c6):=(cell_of_row _ _ 14 _ 46 (0,0) Y3.out).trans rfl
 go_wp2_with fail
 refine (policiesOk_any a6 n6 c6 x.pol _ ((HKN.out _ B3.out).r6) (by have:=HTI.out.2.2.2.2.2.1; show n6≤c6; have h2:c6=n6:=this; omega) (by have:=HTI.out.2.2.2.2.2.1; have h2:c6=n6:=this; have:=HX6.out; omega)).mono ?_
 rintro e w4 ⟨v_,rfl,hv_,hb_⟩
 have B4:Hid (Below w.heap.size w w4):=B3.out.trans (hb_.mono B3.out.size)
 have Y4:Hid (w4.heap[w.heap.size]? = some (.cells #[.int .i64 x.ser,.slice a1 n1 c1,.slice a2 n2 c2,.int .i64 x.frm,.int .i64 x.til,.int .i64 x.key.1,.int .u64 x.key.2.1,.int .i64 x.key.2.2,.bool x.ca,.int .i64 x.room,.int .i64 x.uses,.slice a3 n3 c3,.slice a4 n4 c4,.slice a5 n5 c5,.slice a6 n6 c6,.slice a7 n7 c7,.int .i64 x.need,.int .i64 x.nomap,.int .i64 x.noany,.slice a8 n8 c8,.slice a9 n9 c9] 46)):=(hb_.block _ (Array.getElem?_eq_some_iff.1 Y3.out).1).trans Y3.out
 have HV:Hid _:=hv_
 clear hv_ hb_
 clear p10 p14
 rcases v_ with _ | _
 ·have HN:Hid (¬ ceP x):=fun q=>by have:=HV.out.2 (q.2.2.2.2.2.2.1); cases this
  go_wp2
  go_ret
  exact says_f HN.out B4.out
 have Hq7:Hid (polsP x.pol):=HV.out.1 rfl
 clear HV
 have p19:w4.cell? ⟨w.heap.size,19,none⟩=some (.slice a8 n8 c8):=(cell_of_row _ _ 19 _ 46 (0,0) Y4.out).trans rfl
 go_wp2_with fail
 refine (extsOk_any a8 n8 c8 x.ext _ ((HKN.out _ B4.out).r8)).mono ?_
 rintro e w5 ⟨v_,rfl,hv_,hb_⟩
 have B5:Hid (Below w.heap.size w w5):=B4.out.trans (hb_.mono B4.out.size)
 have Y5:Hid (w5.heap[w.heap.size]? = some (.cells #[.int .i64 x.ser,.slice a1 n1 c1,.slice a2 n2 c2,.int .i64 x.frm,.int .i64 x.til,.int .i64 x.key.1,.int .u64 x.key.2.1,.int .i64 x.key.2.2,.bool x.ca,.int .i64 x.room,.int .i64 x.uses,.slice a3 n3 c3,.slice a4 n4 c4,.slice a5 n5 c5,.slice a6 n6 c6,.slice a7 n7 c7,.int .i64 x.need,.int .i64 x.nomap,.int .i64 x.noany,.slice a8 n8 c8,.slice a9 n9 c9] 46)):=(hb_.block _ (Array.getElem?_eq_some_iff.1 Y4.out).1).trans Y4.out
 have HV:Hid _:=hv_
 clear hv_ hb_
 clear p19
 rcases v_ with _ | _
 ·have HN:Hid (¬ ceP x):=fun q=>by have:=HV.out.2 (q.2.2.2.2.2.2.2.1); cases this
  go_wp2
  go_ret
  exact says_f HN.out B5.out
 have Hq8:Hid (extsP x.ext):=HV.out.1 rfl
 clear HV
 have p20:w5.cell? ⟨w.heap.size,20,none⟩=some (.slice a9 n9 c9):=(cell_of_row _ _ 20 _ 46 (0,0) Y5.out).trans rfl
 by_cases q9:(n9:Int)≤500
 case neg =>
  have HN:Hid (¬ ceP x):=fun q=>by have:=q.2.2.2.2.2.2.2.2.1; rw [HL9.out] at this; omega
  go_wp2
  go_ret
  exact says_f HN.out B5.out
 have Hq9:Hid (x.sig.length≤500):=by show x.sig.length≤500; rw [HL9.out]; omega
 go_wp2_with (first | (refine wpList_take 48 true 51 rfl rfl rfl ?_; intro K hK; refine wp_load_row 46 _ rfl w.heap.size rfl 46 #[.int .i64 x.ser,.slice a1 n1 c1,.slice a2 n2 c2,.int .i64 x.frm,.int .i64 x.til,.int .i64 x.key.1,.int .u64 x.key.2.1,.int .i64 x.key.2.2,.bool x.ca,.int .i64 x.room,.int .i64 x.uses,.slice a3 n3 c3,.slice a4 n4 c4,.slice a5 n5 c5,.slice a6 n6 c6,.slice a7 n7 c7,.int .i64 x.need,.int .i64 x.nomap,.int .i64 x.noany,.slice a8 n8 c8,.slice a9 n9 c9] (0,0) _ Y5.out Tryz.underlying46 rfl infoSizeC7 ?_; apply hK) | fail)
 refine (HAU.out _ B5.out).mono ?_
 rintro e w6 ⟨v_,rfl,hv_,hb_⟩
 have B6:Hid (Below w.heap.size w w6):=B5.out.trans (hb_.mono B5.out.size)
 have HIF:Hid (v_=true↔ceP x):=⟨fun e=>⟨Hq1.out,Hq2.out,Hq3.out,Hq4.out,Hq5.out,Hq6.out,Hq7.out,Hq8.out,Hq9.out,hv_.out.1 e⟩,fun q=>hv_.out.2 q.2.2.2.2.2.2.2.2.2⟩
 clear hv_ hb_ q9
 clear p20
 go_wp2
 go_ret
 exact ⟨v_,rfl,HIF,B6.out⟩
open Go.ChangeShapes Go.WideShapes Go.ChangeAt Go.RowKit
set_option maxRecDepth 20000 in
theorem open_sigN {H:Type}{enc:TypeId × Value→H}{W:World}{fuel:Nat}{cs:List Value}{x:DataW H × List MemPlace}(h:DataW.trod enc Tryz.prog W 0 (fun _=>true) true fuel 32 cs=some x):∃ a n c bs,cs = [.slice a n c]∧Row W a n bs∧n≤9223372036854775807∧(a=none→c=0):=by
 rcases open_ints Tryz.underlying32 Tryz.underlying5 (by kernel_rfl) h with ⟨rfl,_⟩ | ⟨a,len,cap,zs,rfl,_,hl,hm,hz,_,hc,hw⟩
 ·exact ⟨none,0,0,[],rfl,⟨rfl,fun k hk=>absurd hk (Nat.not_lt_zero _),by simp⟩,by decide,fun _=>rfl⟩
 ·have hr:IsRow .u8 W (some a) len cap zs:=.inr ⟨a,rfl,hl,hm,by simpa using hz,hc,hw⟩
  exact ⟨some a,len,cap,zs.take len,rfl,hr.row.1,by unfold maxLen at hm; omega,fun e=>by cases e⟩
set_option maxRecDepth 20000 in
theorem open_pm {H:Type}{enc:TypeId × Value→H}{W:World}{fuel:Nat}{cs:List Value}{x:DataW H × List MemPlace}(h:DataW.trod enc Tryz.prog W 0 (fun _=>true) true fuel 130 cs=some x):∃ y:Int × Int,cs = [.int .i64 y.1,.int .i64 y.2]:=by
 obtain ⟨xs,m,rfl,_,hl,hxl,hf⟩:=DataW.trod_struct Tryz.underlying130 h
 have hl2:cs.length=2:=hl.trans (by kernel_rfl)
 have hx2:xs.length=2:=hxl
 obtain ⟨c0,c1,rfl⟩:∃ c0 c1,cs = [c0,c1]:=by
  match cs,hl2 with
  | [c0,c1],_=>exact ⟨c0,c1,rfl⟩
 obtain ⟨x0,x1,rfl⟩:∃ c0 c1,xs = [c0,c1]:=by
  match xs,hx2 with
  | [c0,c1],_=>exact ⟨c0,c1,rfl⟩
 have e1:Tryz.prog.cellsOf 2=1:=by kernel_rfl
 have f0:DataW.trod enc Tryz.prog W 0 (fun _=>true) true m 2 ((([c0,c1]:List Value).drop 0).take (Tryz.prog.cellsOf 2))=some x0:=hf 0 _ rfl
 rw [e1] at f0
 have f1:DataW.trod enc Tryz.prog W 0 (fun _=>true) true m 2 ((([c0,c1]:List Value).drop 1).take (Tryz.prog.cellsOf 2))=some x1:=hf 1 _ rfl
 rw [e1] at f1
 obtain ⟨n0,h0,_,_⟩:=DataW.trod_int Tryz.underlying2 f0
 obtain ⟨n1,h1,_,_⟩:=DataW.trod_int Tryz.underlying2 f1
 simp at h0 h1
 subst h0 h1
 exact ⟨(n0,n1),rfl⟩
set_option maxRecDepth 20000 in
theorem open_pms {H:Type}{enc:TypeId × Value→H}{W:World}{fuel:Nat}{cs:List Value}{x:DataW H × List MemPlace}(h:DataW.trod enc Tryz.prog W 0 (fun _=>true) true fuel 30 cs=some x):∃ a n c xs,cs = [.slice a n c]∧Pms W a n xs:=by
 rcases DataW.trod_slice Tryz.underlying30 h with ⟨rfl,_⟩ | ⟨a,len,cap,elems,rest,n,rfl,rfl,_,_,hl,hm,hlen,hel,_,_⟩
 ·exact ⟨none,0,0,[],rfl,⟨rfl,by decide,fun k hk=>absurd hk (by omega)⟩⟩
 ·have ec:Tryz.prog.cellsOf 130=2:=by kernel_rfl
  rw [ec] at hel
  have each:∀ i,i<len→∃ y:Int × Int,∃ cs',W.cells? 0 (a.add (i * 2)) 2=some cs'∧cs' = [.int .i64 y.1,.int .i64 y.2]:=by
   intro i hi
   have he:=hel i hi
   rw [List.getElem?_eq_getElem (by omega)] at he
   cases hc:W.cells? 0 (a.add (i * 2)) 2 with
   | none=>rw [hc] at he; cases he
   | some cs' =>
    rw [hc] at he
    obtain ⟨y,hy⟩:=open_pm he
    exact ⟨y,cs',rfl,hy⟩
  obtain ⟨y,hy⟩:=Go.Deep.choose_lt each
  have hm':len≤9223372036854775807:=by unfold maxLen at hm; omega
  refine ⟨some a,len,cap,(List.range len).map y,rfl,⟨by simp,hm',fun k hk=>?_⟩⟩
  obtain ⟨cs',hcs,rfl⟩:=hy k hk
  obtain ⟨_,_,hcell⟩:=World.cells?_some hcs
  obtain ⟨b,off,spot⟩:=a
  have hs:spot=none:=by
   obtain ⟨cs0,hcs0,_⟩:=hy 0 (by omega)
   obtain ⟨_,hl0,hcell0⟩:=World.cells?_some hcs0
   have h00:=hcell0 0 (by omega)
   rw [List.getElem?_eq_getElem (by omega)] at h00
   simpa [Addr.add] using World.cell?_spot h00
  subst hs
  have ey:((List.range len).map y).getD k (0,0)=y k:=by simp [hk]
  rw [ey]
  have cc:∀ j,j<2→W.cell? ⟨b,off+k * 2+j,none⟩ = [Value.int .i64 (y k).1,.int .i64 (y k).2][j]?:=by
   intro j hj
   have:=hcell j hj
   rw [Addr.add_lit,Addr.add_lit] at this
   exact this
  exact ⟨b,off,rfl,World.block_lt_of_cell? W _ (cc 0 (by omega)),cc 0 (by omega),cc 1 (by omega)⟩
theorem open_row64C {H:Type}{enc:TypeId × Value→H}{W:World}{fuel:Nat}{cs:List Value}{x:DataW H × List MemPlace}(h:DataW.trod enc Tryz.prog W 0 (fun _=>true) true fuel 29 cs=some x) :
  ∃ a n cap zs,cs = [.slice a n cap]∧Row64 W a n zs∧n≤9223372036854775807:=by
 rcases open_ints Tryz.underlying29 Tryz.underlying2 (by kernel_rfl) h with ⟨rfl,_⟩ | ⟨a,len,cap,zs,rfl,_,hl,hm,hz,_,hc,hwz⟩
 ·exact ⟨none,0,0,[],rfl,⟨rfl,fun k hk=>absurd hk (Nat.not_lt_zero _)⟩,by decide⟩
 ·have hz':zs.length=cap:=by simpa using hz
  refine ⟨some a,len,cap,zs.take len,rfl,⟨by rw [List.length_take]; omega,fun k hk=>?_⟩,by unfold maxLen at hm; omega⟩
  have h0:=hc k (by omega)
  obtain ⟨b,off,spot⟩:=a
  have hs:spot=none:=by simpa [Addr.add] using World.cell?_spot (hc 0 (by omega))
  subst hs
  rw [Addr.add_lit] at h0
  refine ⟨b,off,rfl,World.block_lt_of_cell? W _ h0,h0.trans ?_⟩
  simp [hk]
set_option maxRecDepth 20000 in
theorem open_Ext {H:Type}{enc:TypeId × Value→H}{W:World}{fuel:Nat}{cs:List Value}{x:DataW H × List MemPlace}(h:DataW.trod enc Tryz.prog W 0 (fun _=>true) true fuel 108 cs=some x):∃ (s:XPS) (y:XP),cs = [.int .i64 y.id,.bool y.crit,.slice s.a1 s.n1 s.c1]∧XPR W s y:=by
 obtain ⟨xs,m,rfl,_,hl,hxl,hf⟩:=DataW.trod_struct Tryz.underlying108 h
 have hl2:cs.length=3:=hl.trans (by kernel_rfl)
 have hx2:xs.length=3:=hxl
 obtain ⟨c0,c1,c2,rfl⟩:∃ c0 c1 c2,cs = [c0,c1,c2]:=by
  match cs,hl2 with
  | [c0,c1,c2],_=>exact ⟨c0,c1,c2,rfl⟩
 obtain ⟨x0,x1,x2,rfl⟩:∃ y0 y1 y2,xs = [y0,y1,y2]:=by
  match xs,hx2 with
  | [y0,y1,y2],_=>exact ⟨y0,y1,y2,rfl⟩
 have e0:Tryz.prog.cellsOf 2=1:=by kernel_rfl
 have f0:DataW.trod enc Tryz.prog W 0 (fun _=>true) true m 2 ((([c0,c1,c2]:List Value).drop 0).take (Tryz.prog.cellsOf 2))=some x0:=hf 0 _ rfl
 rw [e0] at f0
 have e1:Tryz.prog.cellsOf 4=1:=by kernel_rfl
 have f1:DataW.trod enc Tryz.prog W 0 (fun _=>true) true m 4 ((([c0,c1,c2]:List Value).drop 1).take (Tryz.prog.cellsOf 4))=some x1:=hf 1 _ rfl
 rw [e1] at f1
 have e2:Tryz.prog.cellsOf 32=1:=by kernel_rfl
 have f2:DataW.trod enc Tryz.prog W 0 (fun _=>true) true m 32 ((([c0,c1,c2]:List Value).drop 2).take (Tryz.prog.cellsOf 32))=some x2:=hf 2 _ rfl
 rw [e2] at f2
 obtain ⟨v0,h0,_,_⟩:=DataW.trod_int Tryz.underlying2 f0
 obtain ⟨v1,h1,_⟩:=DataW.trod_bool Tryz.underlying4 f1
 obtain ⟨b1,m1,d1,v2,h2,r1,z1,nl1⟩:=open_sigN f2
 simp at h0 h1 h2
 subst h0
 subst h1
 subst h2
 exact ⟨⟨b1,m1,d1⟩,⟨v0,v1,v2⟩,rfl,⟨r1,z1,nl1⟩⟩
set_option maxRecDepth 20000 in
theorem open_Exts {H:Type}{enc:TypeId × Value→H}{W:World}{fuel:Nat}{cs:List Value}{x:DataW H × List MemPlace}(h:DataW.trod enc Tryz.prog W 0 (fun _=>true) true fuel 31 cs=some x):∃ a n c xs,cs = [.slice a n c]∧XPs W a n xs:=by
 rcases DataW.trod_slice Tryz.underlying31 h with ⟨rfl,_⟩ | ⟨a,len,cap,elems,rest,n,rfl,rfl,_,_,hl,hm,hlen,hel,_,_⟩
 ·exact ⟨none,0,0,[],rfl,⟨rfl,by decide,fun k hk=>absurd hk (by omega)⟩⟩
 ·have ec:Tryz.prog.cellsOf 108=3:=by kernel_rfl
  rw [ec] at hel
  have each:∀ i,i<len→∃ y:XPS × XP,∃ cs',W.cells? 0 (a.add (i * 3)) 3=some cs'∧cs' = [.int .i64 y.2.id,.bool y.2.crit,.slice y.1.a1 y.1.n1 y.1.c1]∧XPR W y.1 y.2:=by
   intro i hi
   have he:=hel i hi
   rw [List.getElem?_eq_getElem (by omega)] at he
   cases hc:W.cells? 0 (a.add (i * 3)) 3 with
   | none=>rw [hc] at he; cases he
   | some cs' =>
    rw [hc] at he
    obtain ⟨s,y,hcs,hp⟩:=open_Ext he
    exact ⟨(s,y),cs',rfl,hcs,hp⟩
  obtain ⟨y,hy⟩:=Go.Deep.choose_lt each
  have hm':len≤9223372036854775807:=by unfold maxLen at hm; omega
  refine ⟨some a,len,cap,(List.range len).map (fun i=>(y i).2),rfl,⟨by simp,hm',fun k hk=>?_⟩⟩
  obtain ⟨cs',hcs,rfl,hck⟩:=hy k hk
  obtain ⟨_,_,hcell⟩:=World.cells?_some hcs
  obtain ⟨b,off,spot⟩:=a
  have hs:spot=none:=by
   obtain ⟨cs0,hcs0,_⟩:=hy 0 (by omega)
   obtain ⟨_,hl0,hcell0⟩:=World.cells?_some hcs0
   have h00:=hcell0 0 (by omega)
   rw [List.getElem?_eq_getElem (by omega)] at h00
   simpa [Addr.add] using World.cell?_spot h00
  subst hs
  have ey:((List.range len).map (fun i=>(y i).2)).getD k default=(y k).2:=by simp [hk]
  rw [ey]
  have cc:∀ j,j<3→W.cell? ⟨b,off+k * 3+j,none⟩ = [(.int .i64 (y k).2.id:Value),.bool (y k).2.crit,.slice (y k).1.a1 (y k).1.n1 (y k).1.c1][j]?:=by
   intro j hj
   have:=hcell j hj
   rw [Addr.add_lit,Addr.add_lit] at this
   exact this
  exact ⟨b,off,(y k).1,rfl,World.block_lt_of_cell? W _ (cc 0 (by omega)),⟨cc 0 (by omega),cc 1 (by omega),cc 2 (by omega)⟩,hck⟩
set_option maxRecDepth 20000 in
theorem open_Cert {H:Type}{enc:TypeId × Value→H}{W:World}{fuel:Nat}{cs:List Value}{x:DataW H × List MemPlace}(h:DataW.trod enc Tryz.prog W 0 (fun _=>true) true fuel 34 cs=some x):∃ (s:CES) (y:CE),cs = [.int .i64 y.ser,.slice s.a1 s.n1 s.c1,.slice s.a2 s.n2 s.c2,.int .i64 y.frm,.int .i64 y.til,.int .i64 y.key.1,.int .u64 y.key.2.1,.int .i64 y.key.2.2,.bool y.ca,.int .i64 y.room,.int .i64 y.uses,.slice s.a3 s.n3 s.c3,.slice s.a4 s.n4 s.c4,.slice s.a5 s.n5 s.c5,.slice s.a6 s.n6 s.c6,.slice s.a7 s.n7 s.c7,.int .i64 y.need,.int .i64 y.nomap,.int .i64 y.noany,.slice s.a8 s.n8 s.c8,.slice s.a9 s.n9 s.c9]∧CER W s y∧U64 (y.key.2.1):=by
 obtain ⟨xs,m,rfl,_,hl,hxl,hf⟩:=DataW.trod_struct Tryz.underlying34 h
 have hl2:cs.length=21:=hl.trans (by kernel_rfl)
 have hx2:xs.length=19:=hxl
 obtain ⟨c0,c1,c2,c3,c4,c5,c6,c7,c8,c9,c10,c11,c12,c13,c14,c15,c16,c17,c18,c19,c20,rfl⟩:∃ c0 c1 c2 c3 c4 c5 c6 c7 c8 c9 c10 c11 c12 c13 c14 c15 c16 c17 c18 c19 c20,cs = [c0,c1,c2,c3,c4,c5,c6,c7,c8,c9,c10,c11,c12,c13,c14,c15,c16,c17,c18,c19,c20]:=by
  match cs,hl2 with
  | [c0,c1,c2,c3,c4,c5,c6,c7,c8,c9,c10,c11,c12,c13,c14,c15,c16,c17,c18,c19,c20],_=>exact ⟨c0,c1,c2,c3,c4,c5,c6,c7,c8,c9,c10,c11,c12,c13,c14,c15,c16,c17,c18,c19,c20,rfl⟩
 obtain ⟨x0,x1,x2,x3,x4,x5,x6,x7,x8,x9,x10,x11,x12,x13,x14,x15,x16,x17,x18,rfl⟩:∃ y0 y1 y2 y3 y4 y5 y6 y7 y8 y9 y10 y11 y12 y13 y14 y15 y16 y17 y18,xs = [y0,y1,y2,y3,y4,y5,y6,y7,y8,y9,y10,y11,y12,y13,y14,y15,y16,y17,y18]:=by
  match xs,hx2 with
  | [y0,y1,y2,y3,y4,y5,y6,y7,y8,y9,y10,y11,y12,y13,y14,y15,y16,y17,y18],_=>exact ⟨y0,y1,y2,y3,y4,y5,y6,y7,y8,y9,y10,y11,y12,y13,y14,y15,y16,y17,y18,rfl⟩
 have e0:Tryz.prog.cellsOf 2=1:=by kernel_rfl
 have f0:DataW.trod enc Tryz.prog W 0 (fun _=>true) true m 2 ((([c0,c1,c2,c3,c4,c5,c6,c7,c8,c9,c10,c11,c12,c13,c14,c15,c16,c17,c18,c19,c20]:List Value).drop 0).take (Tryz.prog.cellsOf 2))=some x0:=hf 0 _ rfl
 rw [e0] at f0
 have e1:Tryz.prog.cellsOf 24=1:=by kernel_rfl
 have f1:DataW.trod enc Tryz.prog W 0 (fun _=>true) true m 24 ((([c0,c1,c2,c3,c4,c5,c6,c7,c8,c9,c10,c11,c12,c13,c14,c15,c16,c17,c18,c19,c20]:List Value).drop 1).take (Tryz.prog.cellsOf 24))=some x1:=hf 1 _ rfl
 rw [e1] at f1
 have e2:Tryz.prog.cellsOf 24=1:=by kernel_rfl
 have f2:DataW.trod enc Tryz.prog W 0 (fun _=>true) true m 24 ((([c0,c1,c2,c3,c4,c5,c6,c7,c8,c9,c10,c11,c12,c13,c14,c15,c16,c17,c18,c19,c20]:List Value).drop 2).take (Tryz.prog.cellsOf 24))=some x2:=hf 2 _ rfl
 rw [e2] at f2
 have e3:Tryz.prog.cellsOf 2=1:=by kernel_rfl
 have f3:DataW.trod enc Tryz.prog W 0 (fun _=>true) true m 2 ((([c0,c1,c2,c3,c4,c5,c6,c7,c8,c9,c10,c11,c12,c13,c14,c15,c16,c17,c18,c19,c20]:List Value).drop 3).take (Tryz.prog.cellsOf 2))=some x3:=hf 3 _ rfl
 rw [e3] at f3
 have e4:Tryz.prog.cellsOf 2=1:=by kernel_rfl
 have f4:DataW.trod enc Tryz.prog W 0 (fun _=>true) true m 2 ((([c0,c1,c2,c3,c4,c5,c6,c7,c8,c9,c10,c11,c12,c13,c14,c15,c16,c17,c18,c19,c20]:List Value).drop 4).take (Tryz.prog.cellsOf 2))=some x4:=hf 4 _ rfl
 rw [e4] at f4
 have e5:Tryz.prog.cellsOf 27=3:=by kernel_rfl
 have f5:DataW.trod enc Tryz.prog W 0 (fun _=>true) true m 27 ((([c0,c1,c2,c3,c4,c5,c6,c7,c8,c9,c10,c11,c12,c13,c14,c15,c16,c17,c18,c19,c20]:List Value).drop 5).take (Tryz.prog.cellsOf 27))=some x5:=hf 5 _ rfl
 rw [e5] at f5
 have e6:Tryz.prog.cellsOf 4=1:=by kernel_rfl
 have f6:DataW.trod enc Tryz.prog W 0 (fun _=>true) true m 4 ((([c0,c1,c2,c3,c4,c5,c6,c7,c8,c9,c10,c11,c12,c13,c14,c15,c16,c17,c18,c19,c20]:List Value).drop 8).take (Tryz.prog.cellsOf 4))=some x6:=hf 6 _ rfl
 rw [e6] at f6
 have e7:Tryz.prog.cellsOf 2=1:=by kernel_rfl
 have f7:DataW.trod enc Tryz.prog W 0 (fun _=>true) true m 2 ((([c0,c1,c2,c3,c4,c5,c6,c7,c8,c9,c10,c11,c12,c13,c14,c15,c16,c17,c18,c19,c20]:List Value).drop 9).take (Tryz.prog.cellsOf 2))=some x7:=hf 7 _ rfl
 rw [e7] at f7
 have e8:Tryz.prog.cellsOf 2=1:=by kernel_rfl
 have f8:DataW.trod enc Tryz.prog W 0 (fun _=>true) true m 2 ((([c0,c1,c2,c3,c4,c5,c6,c7,c8,c9,c10,c11,c12,c13,c14,c15,c16,c17,c18,c19,c20]:List Value).drop 10).take (Tryz.prog.cellsOf 2))=some x8:=hf 8 _ rfl
 rw [e8] at f8
 have e9:Tryz.prog.cellsOf 28=1:=by kernel_rfl
 have f9:DataW.trod enc Tryz.prog W 0 (fun _=>true) true m 28 ((([c0,c1,c2,c3,c4,c5,c6,c7,c8,c9,c10,c11,c12,c13,c14,c15,c16,c17,c18,c19,c20]:List Value).drop 11).take (Tryz.prog.cellsOf 28))=some x9:=hf 9 _ rfl
 rw [e9] at f9
 have e10:Tryz.prog.cellsOf 28=1:=by kernel_rfl
 have f10:DataW.trod enc Tryz.prog W 0 (fun _=>true) true m 28 ((([c0,c1,c2,c3,c4,c5,c6,c7,c8,c9,c10,c11,c12,c13,c14,c15,c16,c17,c18,c19,c20]:List Value).drop 12).take (Tryz.prog.cellsOf 28))=some x10:=hf 10 _ rfl
 rw [e10] at f10
 have e11:Tryz.prog.cellsOf 28=1:=by kernel_rfl
 have f11:DataW.trod enc Tryz.prog W 0 (fun _=>true) true m 28 ((([c0,c1,c2,c3,c4,c5,c6,c7,c8,c9,c10,c11,c12,c13,c14,c15,c16,c17,c18,c19,c20]:List Value).drop 13).take (Tryz.prog.cellsOf 28))=some x11:=hf 11 _ rfl
 rw [e11] at f11
 have e12:Tryz.prog.cellsOf 29=1:=by kernel_rfl
 have f12:DataW.trod enc Tryz.prog W 0 (fun _=>true) true m 29 ((([c0,c1,c2,c3,c4,c5,c6,c7,c8,c9,c10,c11,c12,c13,c14,c15,c16,c17,c18,c19,c20]:List Value).drop 14).take (Tryz.prog.cellsOf 29))=some x12:=hf 12 _ rfl
 rw [e12] at f12
 have e13:Tryz.prog.cellsOf 30=1:=by kernel_rfl
 have f13:DataW.trod enc Tryz.prog W 0 (fun _=>true) true m 30 ((([c0,c1,c2,c3,c4,c5,c6,c7,c8,c9,c10,c11,c12,c13,c14,c15,c16,c17,c18,c19,c20]:List Value).drop 15).take (Tryz.prog.cellsOf 30))=some x13:=hf 13 _ rfl
 rw [e13] at f13
 have e14:Tryz.prog.cellsOf 2=1:=by kernel_rfl
 have f14:DataW.trod enc Tryz.prog W 0 (fun _=>true) true m 2 ((([c0,c1,c2,c3,c4,c5,c6,c7,c8,c9,c10,c11,c12,c13,c14,c15,c16,c17,c18,c19,c20]:List Value).drop 16).take (Tryz.prog.cellsOf 2))=some x14:=hf 14 _ rfl
 rw [e14] at f14
 have e15:Tryz.prog.cellsOf 2=1:=by kernel_rfl
 have f15:DataW.trod enc Tryz.prog W 0 (fun _=>true) true m 2 ((([c0,c1,c2,c3,c4,c5,c6,c7,c8,c9,c10,c11,c12,c13,c14,c15,c16,c17,c18,c19,c20]:List Value).drop 17).take (Tryz.prog.cellsOf 2))=some x15:=hf 15 _ rfl
 rw [e15] at f15
 have e16:Tryz.prog.cellsOf 2=1:=by kernel_rfl
 have f16:DataW.trod enc Tryz.prog W 0 (fun _=>true) true m 2 ((([c0,c1,c2,c3,c4,c5,c6,c7,c8,c9,c10,c11,c12,c13,c14,c15,c16,c17,c18,c19,c20]:List Value).drop 18).take (Tryz.prog.cellsOf 2))=some x16:=hf 16 _ rfl
 rw [e16] at f16
 have e17:Tryz.prog.cellsOf 31=1:=by kernel_rfl
 have f17:DataW.trod enc Tryz.prog W 0 (fun _=>true) true m 31 ((([c0,c1,c2,c3,c4,c5,c6,c7,c8,c9,c10,c11,c12,c13,c14,c15,c16,c17,c18,c19,c20]:List Value).drop 19).take (Tryz.prog.cellsOf 31))=some x17:=hf 17 _ rfl
 rw [e17] at f17
 have e18:Tryz.prog.cellsOf 32=1:=by kernel_rfl
 have f18:DataW.trod enc Tryz.prog W 0 (fun _=>true) true m 32 ((([c0,c1,c2,c3,c4,c5,c6,c7,c8,c9,c10,c11,c12,c13,c14,c15,c16,c17,c18,c19,c20]:List Value).drop 20).take (Tryz.prog.cellsOf 32))=some x18:=hf 18 _ rfl
 rw [e18] at f18
 obtain ⟨v0,h0,_,_⟩:=DataW.trod_int Tryz.underlying2 f0
 obtain ⟨b1,m1,d1,v1,h1,r1⟩:=open_name f1
 obtain ⟨b2,m2,d2,v2,h2,r2⟩:=open_name f2
 obtain ⟨v3,h3,_,_⟩:=DataW.trod_int Tryz.underlying2 f3
 obtain ⟨v4,h4,_,_⟩:=DataW.trod_int Tryz.underlying2 f4
 obtain ⟨v5,y5,k5,h5,g5⟩:=open_pub f5
 obtain ⟨v6,h6,_⟩:=DataW.trod_bool Tryz.underlying4 f6
 obtain ⟨v7,h7,_,_⟩:=DataW.trod_int Tryz.underlying2 f7
 obtain ⟨v8,h8,_,_⟩:=DataW.trod_int Tryz.underlying2 f8
 obtain ⟨b3,m3,d3,v9,h9,r3⟩:=open_gens f9
 obtain ⟨b4,m4,d4,v10,h10,r4⟩:=open_gens f10
 obtain ⟨b5,m5,d5,v11,h11,r5⟩:=open_gens f11
 obtain ⟨b6,m6,d6,v12,h12,r6,z6⟩:=open_row64C f12
 obtain ⟨b7,m7,d7,v13,h13,r7⟩:=open_pms f13
 obtain ⟨v14,h14,_,_⟩:=DataW.trod_int Tryz.underlying2 f14
 obtain ⟨v15,h15,_,_⟩:=DataW.trod_int Tryz.underlying2 f15
 obtain ⟨v16,h16,_,_⟩:=DataW.trod_int Tryz.underlying2 f16
 obtain ⟨b8,m8,d8,v17,h17,r8⟩:=open_Exts f17
 obtain ⟨b9,m9,d9,v18,h18,r9,z9,nl9⟩:=open_sigN f18
 simp at h0 h1 h2 h3 h4 h5 h6 h7 h8 h9 h10 h11 h12 h13 h14 h15 h16 h17 h18
 subst h0
 subst h1
 subst h2
 subst h3
 subst h4
 obtain ⟨rfl,rfl,rfl⟩:=h5
 subst h6
 subst h7
 subst h8
 subst h9
 subst h10
 subst h11
 subst h12
 subst h13
 subst h14
 subst h15
 subst h16
 subst h17
 subst h18
 exact ⟨⟨b1,m1,d1,b2,m2,d2,b3,m3,d3,b4,m4,d4,b5,m5,d5,b6,m6,d6,b7,m7,d7,b8,m8,d8,b9,m9,d9⟩,⟨v0,v1,v2,v3,v4,(v5,y5,k5),v6,v7,v8,v9,v10,v11,v12,v13,v14,v15,v16,v17,v18⟩,rfl,⟨r1,r2,r3,r4,r5,r6,z6,r7,r8,r9,z9,nl9⟩,g5⟩
end Go.Proofs.YtmdfbnlgfhjnoaaGreatDoor
