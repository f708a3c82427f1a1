import Derived.Test.YtmdfbnlgfhjnoaaGreatDoorFC39
import Derived.Test.YtmdfbnlgfhjnoaaGreatDoorFC41
import Derived.Test.YtmdfbnlgfhjnoaaGreatDoorFC35
import Derived.Test.YtmdfbnlgfhjnoaaGreatDoorFC42
import Derived.Test.YtmdfbnlgfhjnoaaGreatDoorFC43
set_option maxRecDepth 10000
set_option maxHeartbeats 8000000
set_option linter.unusedVariables false
namespace Go.Proofs.YtmdfbnlgfhjnoaaGreatDoor
open Go.RowKit Go.Sort
def En (r:Nat)(x:It)(m:Nat):Prop:=∃ l,enc r x=some l∧l.length≤m
theorem En.le {r:Nat}{x:It}{m m':Nat}(h:En r x m)(hm:m≤m'):En r x m':=by
 obtain ⟨l,h1,h2⟩:=h
 exact ⟨l,h1,Nat.le_trans h2 hm⟩
theorem lenL_3 (n:Nat)(h:n<65536):(lenL n).length≤3:=by
 unfold lenL
 split
 ·simp
 ·split
  ·simp
  ·simp
theorem lenL_1 (n:Nat)(h:n<128):(lenL n).length≤1:=by
 unfold lenL
 rw [if_pos h]
 simp
theorem head_len (cls tag:Int)(co:Bool)(bs:List Int)(ks:List It)(n k:Nat)(h1:tag≤30)(hn:(lenL n).length≤k):(headL (.mk cls tag co bs ks) n).length≤k+1:=by
 unfold headL
 rw [List.length_append,if_pos (show (It.mk cls tag co bs ks).tag<31 by show tag<31; omega)]
 simp
 omega
def KL (r:Nat)(ks:List It)(m:Nat):Prop:=∀ acc:List Int,acc.length+m≤20000→∃ l,encK (enc r) acc ks=some l∧l.length≤acc.length+m
theorem KL.nil (r:Nat):KL r [] 0:=fun acc h=>⟨acc,rfl,by omega⟩
theorem KL.cons {r:Nat}{x:It}{xs:List It}{L m:Nat}(h:En r x L)(k:KL r xs m):KL r (x::xs) (L+m):=by
 intro acc hl
 obtain ⟨p,hp,hpl⟩:=h
 obtain ⟨l,h1,h2⟩:=k (acc++p) (by rw [List.length_append]; omega)
 refine ⟨l,?_,?_⟩
 ·rw [encK,hp]
  simp only
  rw [if_pos (by omega)]
  exact h1
 ·rw [List.length_append] at h2
  omega
theorem KL.le {r:Nat}{ks:List It}{m m':Nat}(h:KL r ks m)(hm:m≤m'):KL r ks m':=fun acc ha=>by
 obtain ⟨l,h1,h2⟩:=h acc (by omega)
 exact ⟨l,h1,by omega⟩
theorem KL.map {α:Type}{r:Nat}{f:α→It}{L:Nat}:∀ {xs:List α},(∀ x∈xs,En r (f x) L)→KL r (xs.map f) (xs.length * L)
 | [],_=>by simpa using KL.nil r
 | x::xs,h=>by
  have:=KL.cons (h x (List.mem_cons_self ..)) (KL.map (xs:=xs) (fun y hy=>h y (List.mem_cons_of_mem _ hy)))
  have e:(x::xs).length * L=L+xs.length * L:=by rw [List.length_cons,Nat.succ_mul]; omega
  rw [e]
  exact this
theorem En.box {r:Nat}{cls tag:Int}{ks:List It}{m:Nat}(hc:cls=0∨cls=1)(h0:1≤tag)(h1:tag≤30)(k:KL r ks m)(hm:m≤19990):En (r+1) (.mk cls tag true [] ks) (m+4):=by
 have hs:It.shape (.mk cls tag true [] ks)=true:=by
  unfold It.shape
  simp [It.cls,It.tag,It.cons,It.body]
  omega
 obtain ⟨l,e1,e2⟩:=k [] (by simp; omega)
 simp only [List.length_nil,Nat.zero_add] at e2
 have hi:innerBy (enc r) (.mk cls tag true [] ks)=some l:=by
  unfold innerBy
  rw [if_pos (show (It.mk cls tag true [] ks).cons=true from rfl)]
  exact e1
 have hh:=head_len cls tag true [] ks l.length 3 h1 (lenL_3 _ (by omega))
 exact ⟨_,enc_some r _ _ hs hi (by rw [List.length_append]; omega),by rw [List.length_append]; omega⟩
theorem leaf_en {r:Nat}{t:Int}{bs:List Int}{k:Nat}(h0:1≤t)(h1:t≤30)(hL:bs.length+(k+1)≤20000)(hk:(lenL bs.length).length≤k):En (r+1) (.mk 0 t false bs []) (bs.length+(k+1)):=by
 have hs:It.shape (.mk 0 t false bs [])=true:=by
  unfold It.shape
  simp [It.cls,It.tag,It.cons,It.kids]
  omega
 have hi:innerBy (enc r) (.mk 0 t false bs [])=some bs:=by
  unfold innerBy
  rw [if_neg (by simp [It.cons]),if_pos (by simp [It.body]; omega)]
  rfl
 have hh:=head_len 0 t false bs [] bs.length k h1 hk
 exact ⟨_,enc_some r _ bs hs hi (by rw [List.length_append]; omega),by rw [List.length_append]; omega⟩
theorem En.leaf2 {r:Nat}{t:Int}{bs:List Int}{L:Nat}(h0:1≤t)(h1:t≤30)(hb:bs.length≤L)(hL:L<128):En (r+1) (.mk 0 t false bs []) (L+2) :=
 (leaf_en h0 h1 (by omega) (lenL_1 _ (by omega))).le (by omega)
theorem num_en (r:Nat)(n:Int):En (r+1) (numI n) 10:=En.leaf2 (L:=8) (by decide) (by decide) (by rw [wbL_len]; exact (wsz_bd n).2) (by decide)
theorem par_en (r:Nat)(x:PT)(h:x.val.size≤60):En (r+2) (parI x) 76 :=
 En.box (m:=10+(62+0)) (.inl rfl) (by decide) (by decide) (.cons (num_en r _) (.cons (En.leaf2 (L:=60) (by decide) (by decide) (by rw [bytesOf_len]; exact h) (by decide)) (.nil _))) (by decide)
theorem mem_getD {α:Type}{d x:α}{xs:List α}(h:x∈xs):∃ k,k<xs.length∧xs.getD k d=x:=by
 obtain ⟨k,hk,e⟩:=List.mem_iff_getElem.1 h
 exact ⟨k,hk,by simp [hk,e]⟩
theorem nam_en (r:Nat)(xs:List PT)(h:nameP xs):En (r+4) (namI xs) 616:=by
 have h1:KL (r+2) (xs.map parI) 608:=(KL.map (L:=76) (fun x hx=>by
  obtain ⟨k,hk,e⟩:=mem_getD (d:=default) hx
  exact par_en r x (by rw [← e]; exact (h.2 k hk).2.1))).le (by have:=h.1; omega)
 exact En.box (m:=612+0) (.inl rfl) (by decide) (by decide) (.cons (En.box (m:=608) (.inl rfl) (by decide) (by decide) h1 (by decide)) (.nil _)) (by decide)
def GeB (y:GE):Prop:=(1≤y.g.kind∧y.g.kind≤4)∧(0≤y.g.addr∧y.g.addr≤4294967295)∧(0≤y.g.bits∧y.g.bits≤32)∧nameP y.parts∧((y.parts.length=0∧y.g.text.size≤121)∨y.g.text.size=0)
theorem name_none {xs:List PT}(h:xs.length=0):nameP xs:=⟨by omega,fun k hk=>by omega⟩
theorem mail_size {s:ByteArray}(h:mailP s):s.size≤121:=by
 obtain ⟨j,r,h1,h2,h3,h4⟩:=cut_head s 64
 rcases h4 with ⟨hr,hj⟩ | ⟨_,hj,hc⟩
 ·obtain ⟨a,b,hab,_⟩:=h
  rw [h1,hr] at hab
  simp at hab
 ·have h5:=(mailP_iff hj hc h3).1 h
  have h6:=h5.1.1.2
  have h7:=h5.2.1
  rw [ByteArray.size_extract] at h6 h7
  omega
theorem gen_bd {y:GE}(h:genP y.g y.parts):GeB y:=by
 rcases h with ⟨k,⟨a,b,n⟩,t⟩ | ⟨k,⟨a,b,n⟩,t⟩ | ⟨k,⟨t,n⟩,a,b⟩ | ⟨k,⟨t,a,b⟩,n,_⟩
 ·exact ⟨by omega,by omega,by omega,name_none n,.inl ⟨n,by have:=t.1; omega⟩⟩
 ·exact ⟨by omega,by omega,by omega,name_none n,.inl ⟨n,mail_size t⟩⟩
 ·exact ⟨by omega,by omega,by omega,name_none n,.inr t⟩
 ·exact ⟨by omega,by omega,by omega,n,.inr t⟩
theorem gne_en (r:Nat)(y:GE)(h:GeB y):En (r+5) (gneI y) 652:=by
 rcases h with ⟨_,_,_,hn,ht⟩
 rcases ht with ⟨h0,ht⟩ | ht
 ·have hp:y.parts = []:=List.eq_nil_of_length_eq_zero h0
  have h1:KL (r+2) (y.parts.map parI) 0:=by rw [hp]; exact .nil _
  have h2:En (r+4) (namI y.parts) 8:=En.box (m:=4+0) (.inl rfl) (by decide) (by decide) (.cons (En.box (m:=0) (.inl rfl) (by decide) (by decide) h1 (by decide)) (.nil _)) (by decide)
  exact (En.box (m:=10+(123+(10+(10+(8+0))))) (.inl rfl) (by decide) (by decide) (.cons (num_en _ _) (.cons (En.leaf2 (L:=121) (by decide) (by decide) (by rw [bytesOf_len]; exact ht) (by decide)) (.cons (num_en _ _) (.cons (num_en _ _) (.cons h2 (.nil _)))))) (by decide)).le (by decide)
 ·exact (En.box (m:=10+(2+(10+(10+(616+0))))) (.inl rfl) (by decide) (by decide) (.cons (num_en _ _) (.cons (En.leaf2 (L:=0) (by decide) (by decide) (by rw [bytesOf_len]; omega) (by decide)) (.cons (num_en _ _) (.cons (num_en _ _) (.cons (nam_en r _ hn) (.nil _)))))) (by decide)).le (by decide)
def GesB (xs:List GE):Prop:=xs.length≤8∧∀ k,k<xs.length→GeB (xs.getD k default)
theorem ges_en (r:Nat)(xs:List GE)(h:GesB xs):En (r+6) (lstI (xs.map gneI)) 5220:=by
 have h1:KL (r+5) (xs.map gneI) 5216:=(KL.map (L:=652) (fun x hx=>by
  obtain ⟨k,hk,e⟩:=mem_getD (d:=default) hx
  exact gne_en r x (by rw [← e]; exact h.2 k hk))).le (by have:=h.1; omega)
 exact En.box (m:=5216) (.inl rfl) (by decide) (by decide) h1 (by decide)
theorem key_en (r:Nat)(p:Int × Int × Int):En (r+2) (kyI p) 34 :=
 En.box (m:=10+(10+(10+0))) (.inl rfl) (by decide) (by decide) (.cons (num_en _ _) (.cons (En.leaf2 (L:=8) (by decide) (by decide) (by rw [eightI_len]; decide) (by decide)) (.cons (num_en _ _) (.nil _)))) (by decide)
theorem gens_b {xs:List GE}(h:gensP xs xs.length):GesB xs:=⟨h.1,fun k hk=>gen_bd (h.2 k hk)⟩
theorem en_getD {r:Nat}{x:It}{m:Nat}(h:En r x m):enc r x=some ((enc r x).getD [])∧((enc r x).getD []).length≤m:=by
 obtain ⟨l,h1,h2⟩:=h
 rw [h1]
 exact ⟨rfl,h2⟩
theorem w64_of {n:Int}(h0 : -9223372036854775808≤n)(h1:n≤9223372036854775807):W64 n:=⟨h0,h1⟩
theorem nameW {xs:List PT}(h:nameP xs):∀ k,k<xs.length→W64 (xs.getD k default).attr:=fun k hk=>by have:=(h.2 k hk).1; exact w64_of (by omega) (by omega)
theorem geW_of {y:GE}(h:GeB y):GeW y:=by
 obtain ⟨h1,h2,h3,hn,_⟩:=h
 exact ⟨⟨w64_of (by omega) (by omega),w64_of (by omega) (by omega),w64_of (by omega) (by omega)⟩,nameW hn,by have:=hn.1; omega⟩
theorem geS_of {y:GE}(h:GeB y):GeS y:=by
 obtain ⟨_,_,_,hn,ht⟩:=h
 exact ⟨by omega,by have:=hn.1; omega,fun k hk=>by have:=(hn.2 k hk).2.1; omega⟩
theorem pub_w {p:Int × Int × Int}(h:pubP p.1 p.2.1 p.2.2):W64 p.1∧W64 p.2.2:=by
 rcases h with ⟨h1,h2⟩ | ⟨h1,h2⟩
 ·have:=h2.2
  exact ⟨w64_of (by omega) (by omega),w64_of (by omega) (by omega)⟩
 ·have h3:0≤p.2.2∧p.2.2≤5:=h2
  exact ⟨w64_of (by omega) (by omega),w64_of (by omega) (by omega)⟩
open Go.RowKit Go.Sort
def RqB (x:RQ):Prop:=nameP x.sub∧GesB x.nms∧pubP x.key.1 x.key.2.1 x.key.2.2
def rqI (x:RQ):It:=boxI 3 [namI x.sub,lstI (x.nms.map gneI),kyI x.key]
theorem req_en (x:RQ)(h:RqB x):En 12 (rqI x) 5874 :=
 (En.box (m:=616+(5220+(34+0))) (.inr rfl) (by decide) (by decide) (.cons (nam_en 7 _ h.1) (.cons (ges_en 5 _ h.2.1) (.cons (key_en 9 _) (.nil _)))) (by decide)).le (by decide)
def rqBody (x:RQ):List Int:=(enc 12 (rqI x)).getD []
theorem rqBody_enc {x:RQ}(h:RqB x):enc 12 (boxI 3 [namI x.sub,lstI (x.nms.map gneI),kyI x.key])=some (rqBody x)∧(rqBody x).length≤5874:=en_getD (req_en x h)
theorem itemBytes_Q {L R d:Nat}{x:It}{ab:Option Addr}{nb cb:Nat}{ak:Option Addr}{nk ck:Nat}{l:List Int}{w:World}(h:ItZ L R d w x ab nb cb ak nk ck)(hl:enc 12 x=some l) :
  Calls Tryz.prog 45 #[.agg #[.int .i64 x.cls,.int .i64 x.tag,.bool x.cons,.slice ab nb cb,.slice ak nk ck]] w fun e w'=>∃ a' c',e=.returned (.tuple #[.slice a' l.length c',.bool true])∧Own w.heap.size w' a' l.length c' l∧Below w.heap.size w w':=by
 refine Calls.mono (implItemBytes_any d x ab nb cb ak nk ck w h.it.row.row h.it.nil h.it.max h.it.kids.kids) ?_
 rintro e w1 ⟨hans,hb1⟩
 rcases hans with ⟨a1,n1,c1,bs,rfl,h1,ho⟩ | ⟨rfl,h1⟩
 ·have e1:bs=l:=by have:=h1.out; rw [hl] at this; injection this with this; exact this.symm
  subst e1
  have e2:bs.length=n1:=ho.toRow.len
  subst e2
  exact ⟨a1,c1,rfl,ho,hb1⟩
 ·have:=h1.out
  rw [hl] at this
  cases this
theorem l2Bytes_Q {L R d:Nat}{x:It}{ab:Option Addr}{nb cb:Nat}{ak:Option Addr}{nk ck:Nat}{l:List Int}{w:World}(h:ItZ L R d w x ab nb cb ak nk ck)(hl:enc 12 x=some l) :
  Calls Tryz.prog 36 #[.agg #[.int .i64 x.cls,.int .i64 x.tag,.bool x.cons,.slice ab nb cb,.slice ak nk ck]] w fun e w'=>∃ a' c',e=.returned (.slice a' l.length c')∧Own w.heap.size w' a' l.length c' l∧Below w.heap.size w w' :=
 specBytes_all d 12 x l ab nb cb ak nk ck w hl h.it.row.row h.it.nil h.it.kids.kids
def rq2i (s:RQS)(x:RQ)(l:List Int)(L R G B:Nat):RSpec where
 m:=17
 n:=18
 slots:=[6,7,8,9,10,11,12,13,14,15,16,17,5,18,19,3,4,100017]
 kills:=[[],[],[],[],[],[],[],[],[],[],[],[],[],[],[],[],[],[]]
 pres:=[[],[],[],[],[],[],[],[],[],[],[],[],[],[],[],[],[],[]]
 fact:=fun k v w=>match k with
  | 0=>v=.pointer (some ⟨G,0,none⟩)
  | 1=>v=.agg #[.slice s.a1 s.n1 s.c1]
  | 2=>∃ a1 n1 c1 k1 m1 e1,v=.agg #[.int .i64 (namI x.sub).cls,.int .i64 (namI x.sub).tag,.bool (namI x.sub).cons,.slice a1 n1 c1,.slice k1 m1 e1]∧ItZ L R 6 w (namI x.sub) a1 n1 c1 k1 m1 e1
  | 3=>v=.pointer (some ⟨G,1,none⟩)
  | 4=>v=.slice s.a2 s.n2 s.c2
  | 5=>∃ a2 n2 c2 k2 m2 e2,v=.agg #[.int .i64 (lstI (x.nms.map gneI)).cls,.int .i64 (lstI (x.nms.map gneI)).tag,.bool (lstI (x.nms.map gneI)).cons,.slice a2 n2 c2,.slice k2 m2 e2]∧ItZ L R 6 w (lstI (x.nms.map gneI)) a2 n2 c2 k2 m2 e2
  | 6=>v=.pointer (some ⟨G,2,none⟩)
  | 7=>v=.agg #[.int .i64 x.key.1,.int .u64 x.key.2.1,.int .i64 x.key.2.2]
  | 8=>∃ a3 n3 c3 k3 m3 e3,v=.agg #[.int .i64 (kyI x.key).cls,.int .i64 (kyI x.key).tag,.bool (kyI x.key).cons,.slice a3 n3 c3,.slice k3 m3 e3]∧ItZ L R 6 w (kyI x.key) a3 n3 c3 k3 m3 e3
  | 9=>∃ gr,v=.slice (some ⟨gr,0,none⟩) 3 3∧KidZ L R w gr 7 [namI x.sub,lstI (x.nms.map gneI),kyI x.key]
  | 10=>∃ a0 n0 c0 k0 m0 e0,v=.agg #[.int .i64 (boxI 3 [namI x.sub,lstI (x.nms.map gneI),kyI x.key]).cls,.int .i64 (boxI 3 [namI x.sub,lstI (x.nms.map gneI),kyI x.key]).tag,.bool (boxI 3 [namI x.sub,lstI (x.nms.map gneI),kyI x.key]).cons,.slice a0 n0 c0,.slice k0 m0 e0]∧ItZ L R 7 w (boxI 3 [namI x.sub,lstI (x.nms.map gneI),kyI x.key]) a0 n0 c0 k0 m0 e0
  | 11=>∃ a4 c4,v=.tuple #[.slice a4 l.length c4,.bool true]∧Own B w a4 l.length c4 l
  | 12=>∃ a4 c4,v=.tuple #[.slice a4 l.length c4,.bool true]∧Own B w a4 l.length c4 l
  | 13=>∃ a4 c4,v=.slice a4 l.length c4∧Own B w a4 l.length c4 l
  | 14=>v=.bool true
  | 15=>∃ a4 c4,v=.slice a4 l.length c4∧Own B w a4 l.length c4 l
  | 16=>v=.bool true
  | _=>w.heap[G]? = some (.cells #[.slice s.a1 s.n1 s.c1,.slice s.a2 s.n2 s.c2,.int .i64 x.key.1,.int .u64 x.key.2.1,.int .i64 x.key.2.2,.slice s.a3 s.n3 s.c3] 62 (0,0))
theorem rq2i_stb (s:RQS)(x:RQ)(l:List Int)(L R G B:Nat)(k:Nat)(hk:k<18):StB ((rq2i s x l L R G (B)).fact k):=by
 match k,hk with
 | 0,_=>exact fun _ _ _ h _=>h
 | 1,_=>exact fun _ _ _ h _=>h
 | 2,_=>exact fun _ _ _ ⟨a1,n1,c1,k1,m1,e1,hv,q_0⟩ hb=>⟨a1,n1,c1,k1,m1,e1,hv,q_0.kept hb⟩
 | 3,_=>exact fun _ _ _ h _=>h
 | 4,_=>exact fun _ _ _ h _=>h
 | 5,_=>exact fun _ _ _ ⟨a2,n2,c2,k2,m2,e2,hv,q_0⟩ hb=>⟨a2,n2,c2,k2,m2,e2,hv,q_0.kept hb⟩
 | 6,_=>exact fun _ _ _ h _=>h
 | 7,_=>exact fun _ _ _ h _=>h
 | 8,_=>exact fun _ _ _ ⟨a3,n3,c3,k3,m3,e3,hv,q_0⟩ hb=>⟨a3,n3,c3,k3,m3,e3,hv,q_0.kept hb⟩
 | 9,_=>exact fun _ _ _ ⟨gr,hv,q_0⟩ hb=>⟨gr,hv,q_0.kept hb⟩
 | 10,_=>exact fun _ _ _ ⟨a0,n0,c0,k0,m0,e0,hv,q_0⟩ hb=>⟨a0,n0,c0,k0,m0,e0,hv,q_0.kept hb⟩
 | 11,_=>exact fun _ _ _ ⟨a4,c4,hv,q_0⟩ hb=>⟨a4,c4,hv,q_0.kept hb⟩
 | 12,_=>exact fun _ _ _ ⟨a4,c4,hv,q_0⟩ hb=>⟨a4,c4,hv,q_0.kept hb⟩
 | 13,_=>exact fun _ _ _ ⟨a4,c4,hv,q_0⟩ hb=>⟨a4,c4,hv,q_0.kept hb⟩
 | 14,_=>exact fun _ _ _ h _=>h
 | 15,_=>exact fun _ _ _ ⟨a4,c4,hv,q_0⟩ hb=>⟨a4,c4,hv,q_0.kept hb⟩
 | 16,_=>exact fun _ _ _ h _=>h
 | 17,_=>exact fun _ _ _ q_0 hb=>below_kept q_0 hb
 | k+18,hk=>omega
theorem reqBody_any (s:RQS)(x:RQ)(w:World)(h:RQR w s x)(hu:U64 x.key.2.1)(hb:RqB x)(l:List Int)(hE:enc 12 (boxI 3 [namI x.sub,lstI (x.nms.map gneI),kyI x.key])=some l) :
  Calls Tryz.prog 70 #[RQv s x] w fun e w'=>∃ a' c',e=.returned (.slice a' l.length c')∧Own w.heap.size w' a' l.length c' l∧Below w.heap.size w w':=by
 show Calls Tryz.prog 70 #[.agg #[.slice s.a1 s.n1 s.c1,.slice s.a2 s.n2 s.c2,.int .i64 x.key.1,.int .u64 x.key.2.1,.int .i64 x.key.2.2,.slice s.a3 s.n3 s.c3]] w _
 obtain ⟨w0,hw0⟩:∃ w0,w0=w.alloc (.cells #[.slice s.a1 s.n1 s.c1,.slice s.a2 s.n2 s.c2,.int .i64 x.key.1,.int .u64 x.key.2.1,.int .i64 x.key.2.2,.slice s.a3 s.n3 s.c3] 62):=⟨_,rfl⟩
 have B0:Hid (Below w.heap.size w w0):=by show Below _ _ _; rw [hw0]; exact (Below.refl _ _).alloc (Nat.le_refl _) _
 have L0:Hid (w0.heap[w.heap.size]? = some (.cells #[.slice s.a1 s.n1 s.c1,.slice s.a2 s.n2 s.c2,.int .i64 x.key.1,.int .u64 x.key.2.1,.int .i64 x.key.2.2,.slice s.a3 s.n3 s.c3] 62 (0,0))):=by show _=_; rw [hw0]; exact heap_alloc_new w _
 have HNM:Hid (∀ W,Below w.heap.size w0 W→Calls Tryz.prog 102 #[.agg #[.slice s.a1 s.n1 s.c1]] W fun e w'=>ItR w.heap.size W.heap.size 4 (namI x.sub) e w'∧Below W.heap.size W w'):=fun W hW=>nameItem_R s.a1 s.n1 s.c1 x.sub w.heap.size W (B0.out.trans hW).size (h.r1.kept (B0.out.trans hW)) (fun k hk=>nameW hb.1 k (by have:=h.r1.len; omega)) (by have:=hb.1.1; have:=h.r1.len; omega)
 have HGL:Hid (∀ W,Below w.heap.size w0 W→Calls Tryz.prog 105 #[.slice s.a2 s.n2 s.c2,.func (Fn.func 106) #[] #[]] W fun e w'=>ItR w.heap.size W.heap.size 6 (lstI (x.nms.map gneI)) e w'∧Below W.heap.size W w'):=fun W hW=>listItemGne_R s.a2 s.n2 s.c2 x.nms w.heap.size W (B0.out.trans hW).size (h.r2.kept (B0.out.trans hW)) (fun k hk=>geW_of (hb.2.1.2 k (by have:=h.r2.len; omega))) (by have:=hb.2.1.1; have:=h.r2.len; omega)
 have HPB:Hid (∀ W,Below w.heap.size w0 W→Calls Tryz.prog 103 #[.agg #[.int .i64 x.key.1,.int .u64 x.key.2.1,.int .i64 x.key.2.2]] W fun e w'=>ItR w.heap.size W.heap.size 2 (kyI x.key) e w'∧Below W.heap.size W w'):=fun W hW=>pubItem_R x.key w.heap.size W (B0.out.trans hW).size (pub_w hb.2.2).1 hu (pub_w hb.2.2).2
 have HE:Hid (enc 12 (boxI 3 [namI x.sub,lstI (x.nms.map gneI),kyI x.key])=some l):=hE
 have HBB:w.heap.size≤w0.heap.size:=B0.out.size
 have HRR:w0.heap.size≤w0.heap.size:=Nat.le_refl _
 clear h hu hb hE
 go_enter Tryz.func70,Tryz.ntmps70
 go_upto_region 1 with fail
 rw [← hw0]
 clear hw0
 refine wp_region_ri (rq2i s x l w.heap.size w0.heap.size w.heap.size (w.heap.size)) [3,4,5,6,7,8,9,10,11,12,13,14,15,16,17,18,19] (w.heap.size) (fun a0=>a0.tmps.size=21∧aT a0 1=.pointer (some ⟨w.heap.size,0,none⟩)) (by kernel_rfl) rfl (by kernel_rfl) rfl ⟨rfl,rfl⟩ (rq2i_stb s x l w.heap.size w0.heap.size w.heap.size (w.heap.size)) ?_ ?_ ?_
 ·intro k hk hk2
  match k,hk,hk2 with
  | 17,_,_=>exact L0.out
  | 0,hk,_=>exact absurd hk (by show ¬ (17≤0); omega)
  | 1,hk,_=>exact absurd hk (by show ¬ (17≤1); omega)
  | 2,hk,_=>exact absurd hk (by show ¬ (17≤2); omega)
  | 3,hk,_=>exact absurd hk (by show ¬ (17≤3); omega)
  | 4,hk,_=>exact absurd hk (by show ¬ (17≤4); omega)
  | 5,hk,_=>exact absurd hk (by show ¬ (17≤5); omega)
  | 6,hk,_=>exact absurd hk (by show ¬ (17≤6); omega)
  | 7,hk,_=>exact absurd hk (by show ¬ (17≤7); omega)
  | 8,hk,_=>exact absurd hk (by show ¬ (17≤8); omega)
  | 9,hk,_=>exact absurd hk (by show ¬ (17≤9); omega)
  | 10,hk,_=>exact absurd hk (by show ¬ (17≤10); omega)
  | 11,hk,_=>exact absurd hk (by show ¬ (17≤11); omega)
  | 12,hk,_=>exact absurd hk (by show ¬ (17≤12); omega)
  | 13,hk,_=>exact absurd hk (by show ¬ (17≤13); omega)
  | 14,hk,_=>exact absurd hk (by show ¬ (17≤14); omega)
  | 15,hk,_=>exact absurd hk (by show ¬ (17≤15); omega)
  | 16,hk,_=>exact absurd hk (by show ¬ (17≤16); omega)
  | k+18,_,hk2=>exact absurd hk2 (by show ¬ (k+18<18); omega)
 ·rintro a0 ⟨hz,g1⟩
  refine StepsRI.cons ?_ (StepsRI.cons ?_ (StepsRI.cons ?_ (StepsRI.cons ?_ (StepsRI.cons ?_ (StepsRI.cons ?_ (StepsRI.cons ?_ (StepsRI.cons ?_ (StepsRI.cons ?_ (StepsRI.cons ?_ (StepsRI.cons ?_ (StepsRI.cons ?_ (StepsRI.cons ?_ (StepsRI.cons ?_ (StepsRI.cons ?_ (StepsRI.cons ?_ (StepsRI.cons ?_ (StepsRI.nil)))))))))))))))))
  ·intro lQ b W hI hUN hED KQ hKQ
   exact opw_field 62 1 0 rfl _ ((hI.fr.same 1 (by decide)).trans g1) _ (by kernel_rfl) (hKQ.out _ _ (hI.put 0 6 rfl rfl (by rw [hz]; decide) rfl hUN rfl HBB (rq2i_stb s x l w.heap.size w0.heap.size w.heap.size (w.heap.size)) (Below.refl _ _) rfl))
  ·intro lQ b W hI hUN hED KQ hKQ
   have f:aT b 6=.pointer (some ⟨w.heap.size,0,none⟩):=hI.got 0 (of_decide_eq_true rfl) (edge hED 0 (by kernel_rfl)) rfl
   have hg:=(hI.vot 17 (of_decide_eq_true rfl) (of_decide_eq_true rfl) rfl)
   have hc0:W.cell? ⟨w.heap.size,0,none⟩=some (.slice s.a1 s.n1 s.c1):=(cell_of_row _ _ 0 _ _ (0,0) hg).trans rfl
   exact opw_load1 40 6 rfl _ f _ (by simp [Instr.loadAt,go_sem,hc0]) (hKQ.out _ _ (hI.put 1 7 rfl rfl (by rw [hz]; decide) rfl hUN rfl HBB (rq2i_stb s x l w.heap.size w0.heap.size w.heap.size (w.heap.size)) (Below.refl _ _) rfl))
  ·intro lQ b W hI hUN hED KQ hKQ
   have f0:aT b 7=.agg #[.slice s.a1 s.n1 s.c1]:=hI.got 1 (of_decide_eq_true rfl) (edge hED 1 (by kernel_rfl)) rfl
   refine opw_call 102 #[.tmp 7] _ _ _ rfl Tryz.func102 (by kernel_rfl) rfl #[.agg #[.slice s.a1 s.n1 s.c1]] (by simp [ev,f0]) ?_
   refine (HNM.out W hI.bel).mono ?_
   rintro r W2 ⟨⟨a1,n1,c1,k1,m1,e1,rfl,hzI⟩,hb⟩
   exact ⟨_,rfl,hKQ.out _ _ (hI.put 2 8 rfl rfl (by rw [hz]; decide) rfl hUN rfl HBB (rq2i_stb s x l w.heap.size w0.heap.size w.heap.size (w.heap.size)) hb ⟨a1,n1,c1,k1,m1,e1,rfl,(hzI.mono (Nat.le_trans HRR hI.bel.size)).le (by decide)⟩)⟩
  ·intro lQ b W hI hUN hED KQ hKQ
   exact opw_field 62 1 1 rfl _ ((hI.fr.same 1 (by decide)).trans g1) _ (by kernel_rfl) (hKQ.out _ _ (hI.put 3 9 rfl rfl (by rw [hz]; decide) rfl hUN rfl HBB (rq2i_stb s x l w.heap.size w0.heap.size w.heap.size (w.heap.size)) (Below.refl _ _) rfl))
  ·intro lQ b W hI hUN hED KQ hKQ
   have f:=hI.got 3 (of_decide_eq_true rfl) (edge hED 3 (by kernel_rfl)) rfl
   have hg:=(hI.vot 17 (of_decide_eq_true rfl) (of_decide_eq_true rfl) rfl)
   have hc:W.cell? ⟨w.heap.size,1,none⟩=some (.slice s.a2 s.n2 s.c2):=(cell_of_row _ _ 1 _ _ (0,0) hg).trans rfl
   exact opw_load1 42 9 rfl _ f _ (by simp [Instr.loadAt,go_sem,hc]) (hKQ.out _ _ (hI.put 4 10 rfl rfl (by rw [hz]; decide) rfl hUN rfl HBB (rq2i_stb s x l w.heap.size w0.heap.size w.heap.size (w.heap.size)) (Below.refl _ _) rfl))
  ·intro lQ b W hI hUN hED KQ hKQ
   have f0:aT b 10=.slice s.a2 s.n2 s.c2:=hI.got 4 (of_decide_eq_true rfl) (edge hED 4 (by kernel_rfl)) rfl
   refine opw_call 105 #[.tmp 10,.func 106] _ _ _ rfl Tryz.func105 (by kernel_rfl) rfl #[.slice s.a2 s.n2 s.c2,.func (Fn.func 106) #[] #[]] (by simp [ev,f0]; rfl) ?_
   refine (HGL.out W hI.bel).mono ?_
   rintro r W2 ⟨⟨a2,n2,c2,k2,m2,e2,rfl,hzI⟩,hb⟩
   exact ⟨_,rfl,hKQ.out _ _ (hI.put 5 11 rfl rfl (by rw [hz]; decide) rfl hUN rfl HBB (rq2i_stb s x l w.heap.size w0.heap.size w.heap.size (w.heap.size)) hb ⟨a2,n2,c2,k2,m2,e2,rfl,(hzI.mono (Nat.le_trans HRR hI.bel.size)).le (by decide)⟩)⟩
  ·intro lQ b W hI hUN hED KQ hKQ
   exact opw_field 62 1 2 rfl _ ((hI.fr.same 1 (by decide)).trans g1) _ (by kernel_rfl) (hKQ.out _ _ (hI.put 6 12 rfl rfl (by rw [hz]; decide) rfl hUN rfl HBB (rq2i_stb s x l w.heap.size w0.heap.size w.heap.size (w.heap.size)) (Below.refl _ _) rfl))
  ·intro lQ b W hI hUN hED KQ hKQ
   have f:aT b 12=.pointer (some ⟨w.heap.size,2,none⟩):=hI.got 6 (of_decide_eq_true rfl) (edge hED 6 (by kernel_rfl)) rfl
   have hg:=(hI.vot 17 (of_decide_eq_true rfl) (of_decide_eq_true rfl) rfl)
   have hc0:W.cell? ⟨w.heap.size,2,none⟩=some (.int .i64 x.key.1):=(cell_of_row _ _ 2 _ _ (0,0) hg).trans rfl
   have hc1:W.cell? ⟨w.heap.size,3,none⟩=some (.int .u64 x.key.2.1):=(cell_of_row _ _ 3 _ _ (0,0) hg).trans rfl
   have hc2:W.cell? ⟨w.heap.size,4,none⟩=some (.int .i64 x.key.2.2):=(cell_of_row _ _ 4 _ _ (0,0) hg).trans rfl
   exact opw_load1 41 12 rfl _ f _ (by simp [Instr.loadAt,go_sem,hc0,hc1,hc2]) (hKQ.out _ _ (hI.put 7 13 rfl rfl (by rw [hz]; decide) rfl hUN rfl HBB (rq2i_stb s x l w.heap.size w0.heap.size w.heap.size (w.heap.size)) (Below.refl _ _) rfl))
  ·intro lQ b W hI hUN hED KQ hKQ
   have f0:aT b 13=.agg #[.int .i64 x.key.1,.int .u64 x.key.2.1,.int .i64 x.key.2.2]:=hI.got 7 (of_decide_eq_true rfl) (edge hED 7 (by kernel_rfl)) rfl
   refine opw_call 103 #[.tmp 13] _ _ _ rfl Tryz.func103 (by kernel_rfl) rfl #[.agg #[.int .i64 x.key.1,.int .u64 x.key.2.1,.int .i64 x.key.2.2]] (by simp [ev,f0]) ?_
   refine (HPB.out W hI.bel).mono ?_
   rintro r W2 ⟨⟨a3,n3,c3,k3,m3,e3,rfl,hzI⟩,hb⟩
   exact ⟨_,rfl,hKQ.out _ _ (hI.put 8 14 rfl rfl (by rw [hz]; decide) rfl hUN rfl HBB (rq2i_stb s x l w.heap.size w0.heap.size w.heap.size (w.heap.size)) hb ⟨a3,n3,c3,k3,m3,e3,rfl,(hzI.mono (Nat.le_trans HRR hI.bel.size)).le (by decide)⟩)⟩
  ·intro lQ b W hI hUN hED KQ hKQ
   obtain ⟨a1,n1,c1,k1,m1,e1,f1,o1⟩:=hI.got 2 (of_decide_eq_true rfl) (edge hED 2 (by kernel_rfl)) rfl
   replace f1:aT b 8=.agg #[.int .i64 (namI x.sub).cls,.int .i64 (namI x.sub).tag,.bool (namI x.sub).cons,.slice a1 n1 c1,.slice k1 m1 e1]:=f1
   obtain ⟨a2,n2,c2,k2,m2,e2,f2,o2⟩:=hI.got 5 (of_decide_eq_true rfl) (edge hED 5 (by kernel_rfl)) rfl
   replace f2:aT b 11=.agg #[.int .i64 (lstI (x.nms.map gneI)).cls,.int .i64 (lstI (x.nms.map gneI)).tag,.bool (lstI (x.nms.map gneI)).cons,.slice a2 n2 c2,.slice k2 m2 e2]:=f2
   obtain ⟨a3,n3,c3,k3,m3,e3,f3,o3⟩:=hI.got 8 (of_decide_eq_true rfl) (edge hED 8 (by kernel_rfl)) rfl
   replace f3:aT b 14=.agg #[.int .i64 (kyI x.key).cls,.int .i64 (kyI x.key).tag,.bool (kyI x.key).cons,.slice a3 n3 c3,.slice k3 m3 e3]:=f3
   refine opw_buildSliceT _ 3 _ rfl #[(0,.agg #[.int .i64 (namI x.sub).cls,.int .i64 (namI x.sub).tag,.bool (namI x.sub).cons,.slice a1 n1 c1,.slice k1 m1 e1]),(1,.agg #[.int .i64 (lstI (x.nms.map gneI)).cls,.int .i64 (lstI (x.nms.map gneI)).tag,.bool (lstI (x.nms.map gneI)).cons,.slice a2 n2 c2,.slice k2 m2 e2]),(2,.agg #[.int .i64 (kyI x.key).cls,.int .i64 (kyI x.key).tag,.bool (kyI x.key).cons,.slice a3 n3 c3,.slice k3 m3 e3])] (by simp [ev,f1,f2,f3]) (.slice (some ⟨W.heap.size,0,none⟩) 3 3) (W.alloc (.cells #[.int .i64 (namI x.sub).cls,.int .i64 (namI x.sub).tag,.bool (namI x.sub).cons,.slice a1 n1 c1,.slice k1 m1 e1,.int .i64 (lstI (x.nms.map gneI)).cls,.int .i64 (lstI (x.nms.map gneI)).tag,.bool (lstI (x.nms.map gneI)).cons,.slice a2 n2 c2,.slice k2 m2 e2,.int .i64 (kyI x.key).cls,.int .i64 (kyI x.key).tag,.bool (kyI x.key).cons,.slice a3 n3 c3,.slice k3 m3 e3] 75)) (by kernel_rfl) ?_
   exact hKQ.out _ _ (hI.put 9 15 rfl rfl (by rw [hz]; decide) rfl hUN rfl HBB (rq2i_stb s x l w.heap.size w0.heap.size w.heap.size (w.heap.size)) ((Below.refl _ _).alloc (Nat.le_refl _) _) ⟨W.heap.size,rfl,kidZ_n3 (Nat.le_trans HRR hI.bel.size) o1 o2 o3⟩)
  ·intro lQ b W hI hUN hED KQ hKQ
   obtain ⟨gr,f0,o0⟩:=hI.got 9 (of_decide_eq_true rfl) (edge hED 9 (by kernel_rfl)) rfl
   replace f0:aT b 15=.slice (some ⟨gr,0,none⟩) 3 3:=f0
   refine opw_call 59 #[.const (.int .i64 3),.tmp 15] _ _ _ rfl Tryz.func59 (by kernel_rfl) rfl #[.int .i64 3,.slice (some ⟨gr,0,none⟩) 3 3] (by simp [ev,evc,f0]) ?_
   refine (ownItem_R 3 o0 rfl).mono ?_
   rintro r W2 ⟨⟨a0,n0,c0,k0,m0,e0,rfl,hzI⟩,hb⟩
   exact ⟨_,rfl,hKQ.out _ _ (hI.put 10 16 rfl rfl (by rw [hz]; decide) rfl hUN rfl HBB (rq2i_stb s x l w.heap.size w0.heap.size w.heap.size (w.heap.size)) hb ⟨a0,n0,c0,k0,m0,e0,rfl,hzI⟩)⟩
  ·intro lQ b W hI hUN hED KQ hKQ
   obtain ⟨a0,n0,c0,k0,m0,e0,f0,o0⟩:=hI.got 10 (of_decide_eq_true rfl) (edge hED 10 (by kernel_rfl)) rfl
   replace f0:aT b 16=.agg #[.int .i64 (boxI 3 [namI x.sub,lstI (x.nms.map gneI),kyI x.key]).cls,.int .i64 (boxI 3 [namI x.sub,lstI (x.nms.map gneI),kyI x.key]).tag,.bool (boxI 3 [namI x.sub,lstI (x.nms.map gneI),kyI x.key]).cons,.slice a0 n0 c0,.slice k0 m0 e0]:=f0
   refine opw_call 45 #[.tmp 16] _ _ _ rfl Tryz.func45 (by kernel_rfl) rfl #[.agg #[.int .i64 (boxI 3 [namI x.sub,lstI (x.nms.map gneI),kyI x.key]).cls,.int .i64 (boxI 3 [namI x.sub,lstI (x.nms.map gneI),kyI x.key]).tag,.bool (boxI 3 [namI x.sub,lstI (x.nms.map gneI),kyI x.key]).cons,.slice a0 n0 c0,.slice k0 m0 e0]] (by simp [ev,f0]) ?_
   refine (itemBytes_Q o0 HE.out).mono ?_
   rintro r W2 ⟨a4,c4,rfl,ho,hb⟩
   exact ⟨_,rfl,hKQ.out _ _ (hI.put 11 17 rfl rfl (by rw [hz]; decide) rfl hUN rfl HBB (rq2i_stb s x l w.heap.size w0.heap.size w.heap.size (w.heap.size)) hb ⟨a4,c4,rfl,ho.mono (Nat.le_trans HBB hI.bel.size)⟩)⟩
  ·intro lQ b W hI hUN hED KQ hKQ
   have f:=hI.got 11 (of_decide_eq_true rfl) (edge hED 11 (by kernel_rfl)) rfl
   exact opw_move 17 rfl (hKQ.out _ _ (hI.put 12 5 rfl rfl (by rw [hz]; decide) rfl hUN rfl HBB (rq2i_stb s x l w.heap.size w0.heap.size w.heap.size (w.heap.size)) (Below.refl _ _) f))
  ·intro lQ b W hI hUN hED KQ hKQ
   have f:=hI.got 12 (of_decide_eq_true rfl) (edge hED 12 (by kernel_rfl)) rfl
   obtain ⟨a4,c4,f,o_0⟩:=f
   exact opw_extract 5 0 rfl _ _ f rfl (hKQ.out _ _ (hI.put 13 18 rfl rfl (by rw [hz]; decide) rfl hUN rfl HBB (rq2i_stb s x l w.heap.size w0.heap.size w.heap.size (w.heap.size)) (Below.refl _ _) ⟨a4,c4,rfl,o_0⟩))
  ·intro lQ b W hI hUN hED KQ hKQ
   have f:=hI.got 12 (of_decide_eq_true rfl) (edge hED 12 (by kernel_rfl)) rfl
   obtain ⟨a4,c4,f,o_0⟩:=f
   exact opw_extract 5 1 rfl _ _ f rfl (hKQ.out _ _ (hI.put 14 19 rfl rfl (by rw [hz]; decide) rfl hUN rfl HBB (rq2i_stb s x l w.heap.size w0.heap.size w.heap.size (w.heap.size)) (Below.refl _ _) rfl))
  ·intro lQ b W hI hUN hED KQ hKQ
   have f:=hI.got 13 (of_decide_eq_true rfl) (edge hED 13 (by kernel_rfl)) rfl
   exact opw_assign 18 rfl (hKQ.out _ _ (hI.put 15 3 rfl rfl (by rw [hz]; decide) rfl hUN rfl HBB (rq2i_stb s x l w.heap.size w0.heap.size w.heap.size (w.heap.size)) (Below.refl _ _) f))
  ·intro lQ b W hI hUN hED KQ hKQ
   have f:=hI.got 14 (of_decide_eq_true rfl) (edge hED 14 (by kernel_rfl)) rfl
   exact opw_assign 19 rfl (hKQ.out _ _ (hI.put 16 4 rfl rfl (by rw [hz]; decide) rfl hUN rfl HBB (rq2i_stb s x l w.heap.size w0.heap.size w.heap.size (w.heap.size)) (Below.refl _ _) f))
 ·intro b W hf hb F
  obtain ⟨a4,c4,e2,ho⟩:=F 15 (of_decide_eq_true rfl) rfl
  replace e2:aT b 3=.slice a4 l.length c4:=e2
  have e4:=F 16 (of_decide_eq_true rfl) rfl
  replace e4:aT b 4=.bool true:=e4
  rw [hf.eq]
  simp only [puts,Act.put,List.setIfInBounds_toArray,List.set_cons_zero,List.set_cons_succ,e2,e4]
  clear hf F e2 e4
  generalize aT b=AT
  clear b
  go_wp2
  go_ret
  exact ⟨a4,c4,rfl,ho,B0.out.trans hb⟩
def rq2s (s:RQS)(x:RQ)(l:List Int)(L R G B:Nat):RSpec where
 m:=13
 n:=14
 slots:=[3,4,5,6,7,8,9,10,11,12,13,14,2,100013]
 kills:=[[],[],[],[],[],[],[],[],[],[],[],[],[],[]]
 pres:=[[],[],[],[],[],[],[],[],[],[],[],[],[],[]]
 fact:=fun k v w=>match k with
  | 0=>v=.pointer (some ⟨G,0,none⟩)
  | 1=>v=.agg #[.slice s.a1 s.n1 s.c1]
  | 2=>∃ a1 n1 c1 k1 m1 e1,v=.agg #[.int .i64 (namI x.sub).cls,.int .i64 (namI x.sub).tag,.bool (namI x.sub).cons,.slice a1 n1 c1,.slice k1 m1 e1]∧ItZ L R 6 w (namI x.sub) a1 n1 c1 k1 m1 e1
  | 3=>v=.pointer (some ⟨G,1,none⟩)
  | 4=>v=.slice s.a2 s.n2 s.c2
  | 5=>∃ a2 n2 c2 k2 m2 e2,v=.agg #[.int .i64 (lstI (x.nms.map gneI)).cls,.int .i64 (lstI (x.nms.map gneI)).tag,.bool (lstI (x.nms.map gneI)).cons,.slice a2 n2 c2,.slice k2 m2 e2]∧ItZ L R 6 w (lstI (x.nms.map gneI)) a2 n2 c2 k2 m2 e2
  | 6=>v=.pointer (some ⟨G,2,none⟩)
  | 7=>v=.agg #[.int .i64 x.key.1,.int .u64 x.key.2.1,.int .i64 x.key.2.2]
  | 8=>∃ a3 n3 c3 k3 m3 e3,v=.agg #[.int .i64 (kyI x.key).cls,.int .i64 (kyI x.key).tag,.bool (kyI x.key).cons,.slice a3 n3 c3,.slice k3 m3 e3]∧ItZ L R 6 w (kyI x.key) a3 n3 c3 k3 m3 e3
  | 9=>∃ gr,v=.slice (some ⟨gr,0,none⟩) 3 3∧KidZ L R w gr 7 [namI x.sub,lstI (x.nms.map gneI),kyI x.key]
  | 10=>∃ a0 n0 c0 k0 m0 e0,v=.agg #[.int .i64 (boxI 3 [namI x.sub,lstI (x.nms.map gneI),kyI x.key]).cls,.int .i64 (boxI 3 [namI x.sub,lstI (x.nms.map gneI),kyI x.key]).tag,.bool (boxI 3 [namI x.sub,lstI (x.nms.map gneI),kyI x.key]).cons,.slice a0 n0 c0,.slice k0 m0 e0]∧ItZ L R 7 w (boxI 3 [namI x.sub,lstI (x.nms.map gneI),kyI x.key]) a0 n0 c0 k0 m0 e0
  | 11=>∃ a4 c4,v=.slice a4 l.length c4∧Own B w a4 l.length c4 l
  | 12=>∃ a4 c4,v=.slice a4 l.length c4∧Own B w a4 l.length c4 l
  | _=>w.heap[G]? = some (.cells #[.slice s.a1 s.n1 s.c1,.slice s.a2 s.n2 s.c2,.int .i64 x.key.1,.int .u64 x.key.2.1,.int .i64 x.key.2.2,.slice s.a3 s.n3 s.c3] 62 (0,0))
theorem rq2s_stb (s:RQS)(x:RQ)(l:List Int)(L R G B:Nat)(k:Nat)(hk:k<14):StB ((rq2s s x l L R G (B)).fact k):=by
 match k,hk with
 | 0,_=>exact fun _ _ _ h _=>h
 | 1,_=>exact fun _ _ _ h _=>h
 | 2,_=>exact fun _ _ _ ⟨a1,n1,c1,k1,m1,e1,hv,q_0⟩ hb=>⟨a1,n1,c1,k1,m1,e1,hv,q_0.kept hb⟩
 | 3,_=>exact fun _ _ _ h _=>h
 | 4,_=>exact fun _ _ _ h _=>h
 | 5,_=>exact fun _ _ _ ⟨a2,n2,c2,k2,m2,e2,hv,q_0⟩ hb=>⟨a2,n2,c2,k2,m2,e2,hv,q_0.kept hb⟩
 | 6,_=>exact fun _ _ _ h _=>h
 | 7,_=>exact fun _ _ _ h _=>h
 | 8,_=>exact fun _ _ _ ⟨a3,n3,c3,k3,m3,e3,hv,q_0⟩ hb=>⟨a3,n3,c3,k3,m3,e3,hv,q_0.kept hb⟩
 | 9,_=>exact fun _ _ _ ⟨gr,hv,q_0⟩ hb=>⟨gr,hv,q_0.kept hb⟩
 | 10,_=>exact fun _ _ _ ⟨a0,n0,c0,k0,m0,e0,hv,q_0⟩ hb=>⟨a0,n0,c0,k0,m0,e0,hv,q_0.kept hb⟩
 | 11,_=>exact fun _ _ _ ⟨a4,c4,hv,q_0⟩ hb=>⟨a4,c4,hv,q_0.kept hb⟩
 | 12,_=>exact fun _ _ _ ⟨a4,c4,hv,q_0⟩ hb=>⟨a4,c4,hv,q_0.kept hb⟩
 | 13,_=>exact fun _ _ _ q_0 hb=>below_kept q_0 hb
 | k+14,hk=>omega
theorem l9ReqBody_any (s:RQS)(x:RQ)(w:World)(h:RQR w s x)(hu:U64 x.key.2.1)(hb:RqB x)(l:List Int)(hE:enc 12 (boxI 3 [namI x.sub,lstI (x.nms.map gneI),kyI x.key])=some l) :
  Calls Tryz.prog 67 #[RQv s x] w fun e w'=>∃ a' c',e=.returned (.slice a' l.length c')∧Own w.heap.size w' a' l.length c' l∧Below w.heap.size w w':=by
 show Calls Tryz.prog 67 #[.agg #[.slice s.a1 s.n1 s.c1,.slice s.a2 s.n2 s.c2,.int .i64 x.key.1,.int .u64 x.key.2.1,.int .i64 x.key.2.2,.slice s.a3 s.n3 s.c3]] w _
 obtain ⟨w0,hw0⟩:∃ w0,w0=w.alloc (.cells #[.slice s.a1 s.n1 s.c1,.slice s.a2 s.n2 s.c2,.int .i64 x.key.1,.int .u64 x.key.2.1,.int .i64 x.key.2.2,.slice s.a3 s.n3 s.c3] 62):=⟨_,rfl⟩
 have B0:Hid (Below w.heap.size w w0):=by show Below _ _ _; rw [hw0]; exact (Below.refl _ _).alloc (Nat.le_refl _) _
 have L0:Hid (w0.heap[w.heap.size]? = some (.cells #[.slice s.a1 s.n1 s.c1,.slice s.a2 s.n2 s.c2,.int .i64 x.key.1,.int .u64 x.key.2.1,.int .i64 x.key.2.2,.slice s.a3 s.n3 s.c3] 62 (0,0))):=by show _=_; rw [hw0]; exact heap_alloc_new w _
 have HNM:Hid (∀ W,Below w.heap.size w0 W→Calls Tryz.prog 85 #[.agg #[.slice s.a1 s.n1 s.c1]] W fun e w'=>ItR 0 W.heap.size 4 (namI x.sub) e w'∧Below W.heap.size W w'):=fun W hW=>l9Name_R s.a1 s.n1 s.c1 x.sub W (h.r1.kept (B0.out.trans hW)) (by have:=hb.1.1; have:=h.r1.len; omega) (fun k hk=>by have:=(hb.1.2 k (by have:=h.r1.len; omega)).2.1; omega)
 have HGL:Hid (∀ W,Below w.heap.size w0 W→Calls Tryz.prog 87 #[.slice s.a2 s.n2 s.c2] W fun e w'=>ItR 0 W.heap.size 6 (lstI (x.nms.map gneI)) e w'∧Below W.heap.size W w'):=fun W hW=>l9GenList_R s.a2 s.n2 s.c2 x.nms W (h.r2.kept (B0.out.trans hW)) (by have:=hb.2.1.1; have:=h.r2.len; omega) (fun k hk=>geS_of (hb.2.1.2 k (by have:=h.r2.len; omega)))
 have HPB:Hid (∀ W,Below w.heap.size w0 W→Calls Tryz.prog 86 #[.agg #[.int .i64 x.key.1,.int .u64 x.key.2.1,.int .i64 x.key.2.2]] W fun e w'=>ItR 0 W.heap.size 2 (kyI x.key) e w'∧Below W.heap.size W w'):=fun W hW=>l9Pub_R x.key 0 W (Nat.zero_le _) hu
 have HE:Hid (enc 12 (boxI 3 [namI x.sub,lstI (x.nms.map gneI),kyI x.key])=some l):=hE
 have HBB:w.heap.size≤w0.heap.size:=B0.out.size
 have HRR:w0.heap.size≤w0.heap.size:=Nat.le_refl _
 clear h hu hb hE
 go_enter Tryz.func67,Tryz.ntmps67
 go_upto_region 1 with fail
 rw [← hw0]
 clear hw0
 refine wp_region_ri (rq2s s x l 0 w0.heap.size w.heap.size (w.heap.size)) [2,3,4,5,6,7,8,9,10,11,12,13,14] (w.heap.size) (fun a0=>a0.tmps.size=15∧aT a0 1=.pointer (some ⟨w.heap.size,0,none⟩)) (by kernel_rfl) rfl (by kernel_rfl) rfl ⟨rfl,rfl⟩ (rq2s_stb s x l 0 w0.heap.size w.heap.size (w.heap.size)) ?_ ?_ ?_
 ·intro k hk hk2
  match k,hk,hk2 with
  | 13,_,_=>exact L0.out
  | 0,hk,_=>exact absurd hk (by show ¬ (13≤0); omega)
  | 1,hk,_=>exact absurd hk (by show ¬ (13≤1); omega)
  | 2,hk,_=>exact absurd hk (by show ¬ (13≤2); omega)
  | 3,hk,_=>exact absurd hk (by show ¬ (13≤3); omega)
  | 4,hk,_=>exact absurd hk (by show ¬ (13≤4); omega)
  | 5,hk,_=>exact absurd hk (by show ¬ (13≤5); omega)
  | 6,hk,_=>exact absurd hk (by show ¬ (13≤6); omega)
  | 7,hk,_=>exact absurd hk (by show ¬ (13≤7); omega)
  | 8,hk,_=>exact absurd hk (by show ¬ (13≤8); omega)
  | 9,hk,_=>exact absurd hk (by show ¬ (13≤9); omega)
  | 10,hk,_=>exact absurd hk (by show ¬ (13≤10); omega)
  | 11,hk,_=>exact absurd hk (by show ¬ (13≤11); omega)
  | 12,hk,_=>exact absurd hk (by show ¬ (13≤12); omega)
  | k+14,_,hk2=>exact absurd hk2 (by show ¬ (k+14<14); omega)
 ·rintro a0 ⟨hz,g1⟩
  refine StepsRI.cons ?_ (StepsRI.cons ?_ (StepsRI.cons ?_ (StepsRI.cons ?_ (StepsRI.cons ?_ (StepsRI.cons ?_ (StepsRI.cons ?_ (StepsRI.cons ?_ (StepsRI.cons ?_ (StepsRI.cons ?_ (StepsRI.cons ?_ (StepsRI.cons ?_ (StepsRI.cons ?_ (StepsRI.nil)))))))))))))
  ·intro lQ b W hI hUN hED KQ hKQ
   exact opw_field 62 1 0 rfl _ ((hI.fr.same 1 (by decide)).trans g1) _ (by kernel_rfl) (hKQ.out _ _ (hI.put 0 3 rfl rfl (by rw [hz]; decide) rfl hUN rfl HBB (rq2s_stb s x l 0 w0.heap.size w.heap.size (w.heap.size)) (Below.refl _ _) rfl))
  ·intro lQ b W hI hUN hED KQ hKQ
   have f:aT b 3=.pointer (some ⟨w.heap.size,0,none⟩):=hI.got 0 (of_decide_eq_true rfl) (edge hED 0 (by kernel_rfl)) rfl
   have hg:=(hI.vot 13 (of_decide_eq_true rfl) (of_decide_eq_true rfl) rfl)
   have hc0:W.cell? ⟨w.heap.size,0,none⟩=some (.slice s.a1 s.n1 s.c1):=(cell_of_row _ _ 0 _ _ (0,0) hg).trans rfl
   exact opw_load1 40 3 rfl _ f _ (by simp [Instr.loadAt,go_sem,hc0]) (hKQ.out _ _ (hI.put 1 4 rfl rfl (by rw [hz]; decide) rfl hUN rfl HBB (rq2s_stb s x l 0 w0.heap.size w.heap.size (w.heap.size)) (Below.refl _ _) rfl))
  ·intro lQ b W hI hUN hED KQ hKQ
   have f0:aT b 4=.agg #[.slice s.a1 s.n1 s.c1]:=hI.got 1 (of_decide_eq_true rfl) (edge hED 1 (by kernel_rfl)) rfl
   refine opw_call 85 #[.tmp 4] _ _ _ rfl Tryz.func85 (by kernel_rfl) rfl #[.agg #[.slice s.a1 s.n1 s.c1]] (by simp [ev,f0]) ?_
   refine (HNM.out W hI.bel).mono ?_
   rintro r W2 ⟨⟨a1,n1,c1,k1,m1,e1,rfl,hzI⟩,hb⟩
   exact ⟨_,rfl,hKQ.out _ _ (hI.put 2 5 rfl rfl (by rw [hz]; decide) rfl hUN rfl HBB (rq2s_stb s x l 0 w0.heap.size w.heap.size (w.heap.size)) hb ⟨a1,n1,c1,k1,m1,e1,rfl,(hzI.mono (Nat.le_trans HRR hI.bel.size)).le (by decide)⟩)⟩
  ·intro lQ b W hI hUN hED KQ hKQ
   exact opw_field 62 1 1 rfl _ ((hI.fr.same 1 (by decide)).trans g1) _ (by kernel_rfl) (hKQ.out _ _ (hI.put 3 6 rfl rfl (by rw [hz]; decide) rfl hUN rfl HBB (rq2s_stb s x l 0 w0.heap.size w.heap.size (w.heap.size)) (Below.refl _ _) rfl))
  ·intro lQ b W hI hUN hED KQ hKQ
   have f:=hI.got 3 (of_decide_eq_true rfl) (edge hED 3 (by kernel_rfl)) rfl
   have hg:=(hI.vot 13 (of_decide_eq_true rfl) (of_decide_eq_true rfl) rfl)
   have hc:W.cell? ⟨w.heap.size,1,none⟩=some (.slice s.a2 s.n2 s.c2):=(cell_of_row _ _ 1 _ _ (0,0) hg).trans rfl
   exact opw_load1 42 6 rfl _ f _ (by simp [Instr.loadAt,go_sem,hc]) (hKQ.out _ _ (hI.put 4 7 rfl rfl (by rw [hz]; decide) rfl hUN rfl HBB (rq2s_stb s x l 0 w0.heap.size w.heap.size (w.heap.size)) (Below.refl _ _) rfl))
  ·intro lQ b W hI hUN hED KQ hKQ
   have f0:aT b 7=.slice s.a2 s.n2 s.c2:=hI.got 4 (of_decide_eq_true rfl) (edge hED 4 (by kernel_rfl)) rfl
   refine opw_call 87 #[.tmp 7] _ _ _ rfl Tryz.func87 (by kernel_rfl) rfl #[.slice s.a2 s.n2 s.c2] (by simp [ev,f0]) ?_
   refine (HGL.out W hI.bel).mono ?_
   rintro r W2 ⟨⟨a2,n2,c2,k2,m2,e2,rfl,hzI⟩,hb⟩
   exact ⟨_,rfl,hKQ.out _ _ (hI.put 5 8 rfl rfl (by rw [hz]; decide) rfl hUN rfl HBB (rq2s_stb s x l 0 w0.heap.size w.heap.size (w.heap.size)) hb ⟨a2,n2,c2,k2,m2,e2,rfl,(hzI.mono (Nat.le_trans HRR hI.bel.size)).le (by decide)⟩)⟩
  ·intro lQ b W hI hUN hED KQ hKQ
   exact opw_field 62 1 2 rfl _ ((hI.fr.same 1 (by decide)).trans g1) _ (by kernel_rfl) (hKQ.out _ _ (hI.put 6 9 rfl rfl (by rw [hz]; decide) rfl hUN rfl HBB (rq2s_stb s x l 0 w0.heap.size w.heap.size (w.heap.size)) (Below.refl _ _) rfl))
  ·intro lQ b W hI hUN hED KQ hKQ
   have f:aT b 9=.pointer (some ⟨w.heap.size,2,none⟩):=hI.got 6 (of_decide_eq_true rfl) (edge hED 6 (by kernel_rfl)) rfl
   have hg:=(hI.vot 13 (of_decide_eq_true rfl) (of_decide_eq_true rfl) rfl)
   have hc0:W.cell? ⟨w.heap.size,2,none⟩=some (.int .i64 x.key.1):=(cell_of_row _ _ 2 _ _ (0,0) hg).trans rfl
   have hc1:W.cell? ⟨w.heap.size,3,none⟩=some (.int .u64 x.key.2.1):=(cell_of_row _ _ 3 _ _ (0,0) hg).trans rfl
   have hc2:W.cell? ⟨w.heap.size,4,none⟩=some (.int .i64 x.key.2.2):=(cell_of_row _ _ 4 _ _ (0,0) hg).trans rfl
   exact opw_load1 41 9 rfl _ f _ (by simp [Instr.loadAt,go_sem,hc0,hc1,hc2]) (hKQ.out _ _ (hI.put 7 10 rfl rfl (by rw [hz]; decide) rfl hUN rfl HBB (rq2s_stb s x l 0 w0.heap.size w.heap.size (w.heap.size)) (Below.refl _ _) rfl))
  ·intro lQ b W hI hUN hED KQ hKQ
   have f0:aT b 10=.agg #[.int .i64 x.key.1,.int .u64 x.key.2.1,.int .i64 x.key.2.2]:=hI.got 7 (of_decide_eq_true rfl) (edge hED 7 (by kernel_rfl)) rfl
   refine opw_call 86 #[.tmp 10] _ _ _ rfl Tryz.func86 (by kernel_rfl) rfl #[.agg #[.int .i64 x.key.1,.int .u64 x.key.2.1,.int .i64 x.key.2.2]] (by simp [ev,f0]) ?_
   refine (HPB.out W hI.bel).mono ?_
   rintro r W2 ⟨⟨a3,n3,c3,k3,m3,e3,rfl,hzI⟩,hb⟩
   exact ⟨_,rfl,hKQ.out _ _ (hI.put 8 11 rfl rfl (by rw [hz]; decide) rfl hUN rfl HBB (rq2s_stb s x l 0 w0.heap.size w.heap.size (w.heap.size)) hb ⟨a3,n3,c3,k3,m3,e3,rfl,(hzI.mono (Nat.le_trans HRR hI.bel.size)).le (by decide)⟩)⟩
  ·intro lQ b W hI hUN hED KQ hKQ
   obtain ⟨a1,n1,c1,k1,m1,e1,f1,o1⟩:=hI.got 2 (of_decide_eq_true rfl) (edge hED 2 (by kernel_rfl)) rfl
   replace f1:aT b 5=.agg #[.int .i64 (namI x.sub).cls,.int .i64 (namI x.sub).tag,.bool (namI x.sub).cons,.slice a1 n1 c1,.slice k1 m1 e1]:=f1
   obtain ⟨a2,n2,c2,k2,m2,e2,f2,o2⟩:=hI.got 5 (of_decide_eq_true rfl) (edge hED 5 (by kernel_rfl)) rfl
   replace f2:aT b 8=.agg #[.int .i64 (lstI (x.nms.map gneI)).cls,.int .i64 (lstI (x.nms.map gneI)).tag,.bool (lstI (x.nms.map gneI)).cons,.slice a2 n2 c2,.slice k2 m2 e2]:=f2
   obtain ⟨a3,n3,c3,k3,m3,e3,f3,o3⟩:=hI.got 8 (of_decide_eq_true rfl) (edge hED 8 (by kernel_rfl)) rfl
   replace f3:aT b 11=.agg #[.int .i64 (kyI x.key).cls,.int .i64 (kyI x.key).tag,.bool (kyI x.key).cons,.slice a3 n3 c3,.slice k3 m3 e3]:=f3
   refine opw_buildSliceT _ 3 _ rfl #[(0,.agg #[.int .i64 (namI x.sub).cls,.int .i64 (namI x.sub).tag,.bool (namI x.sub).cons,.slice a1 n1 c1,.slice k1 m1 e1]),(1,.agg #[.int .i64 (lstI (x.nms.map gneI)).cls,.int .i64 (lstI (x.nms.map gneI)).tag,.bool (lstI (x.nms.map gneI)).cons,.slice a2 n2 c2,.slice k2 m2 e2]),(2,.agg #[.int .i64 (kyI x.key).cls,.int .i64 (kyI x.key).tag,.bool (kyI x.key).cons,.slice a3 n3 c3,.slice k3 m3 e3])] (by simp [ev,f1,f2,f3]) (.slice (some ⟨W.heap.size,0,none⟩) 3 3) (W.alloc (.cells #[.int .i64 (namI x.sub).cls,.int .i64 (namI x.sub).tag,.bool (namI x.sub).cons,.slice a1 n1 c1,.slice k1 m1 e1,.int .i64 (lstI (x.nms.map gneI)).cls,.int .i64 (lstI (x.nms.map gneI)).tag,.bool (lstI (x.nms.map gneI)).cons,.slice a2 n2 c2,.slice k2 m2 e2,.int .i64 (kyI x.key).cls,.int .i64 (kyI x.key).tag,.bool (kyI x.key).cons,.slice a3 n3 c3,.slice k3 m3 e3] 75)) (by kernel_rfl) ?_
   exact hKQ.out _ _ (hI.put 9 12 rfl rfl (by rw [hz]; decide) rfl hUN rfl HBB (rq2s_stb s x l 0 w0.heap.size w.heap.size (w.heap.size)) ((Below.refl _ _).alloc (Nat.le_refl _) _) ⟨W.heap.size,rfl,kidZ_n3 (Nat.le_trans HRR hI.bel.size) o1 o2 o3⟩)
  ·intro lQ b W hI hUN hED KQ hKQ
   obtain ⟨gr,f0,o0⟩:=hI.got 9 (of_decide_eq_true rfl) (edge hED 9 (by kernel_rfl)) rfl
   replace f0:aT b 12=.slice (some ⟨gr,0,none⟩) 3 3:=f0
   refine opw_call 84 #[.const (.int .i64 1),.const (.int .i64 3),.tmp 12] _ _ _ rfl Tryz.func84 (by kernel_rfl) rfl #[.int .i64 1,.int .i64 3,.slice (some ⟨gr,0,none⟩) 3 3] (by simp [ev,evc,f0]) ?_
   refine (l2Box_R 3 o0 rfl).mono ?_
   rintro r W2 ⟨⟨a0,n0,c0,k0,m0,e0,rfl,hzI⟩,hb⟩
   exact ⟨_,rfl,hKQ.out _ _ (hI.put 10 13 rfl rfl (by rw [hz]; decide) rfl hUN rfl HBB (rq2s_stb s x l 0 w0.heap.size w.heap.size (w.heap.size)) hb ⟨a0,n0,c0,k0,m0,e0,rfl,hzI⟩)⟩
  ·intro lQ b W hI hUN hED KQ hKQ
   obtain ⟨a0,n0,c0,k0,m0,e0,f0,o0⟩:=hI.got 10 (of_decide_eq_true rfl) (edge hED 10 (by kernel_rfl)) rfl
   replace f0:aT b 13=.agg #[.int .i64 (boxI 3 [namI x.sub,lstI (x.nms.map gneI),kyI x.key]).cls,.int .i64 (boxI 3 [namI x.sub,lstI (x.nms.map gneI),kyI x.key]).tag,.bool (boxI 3 [namI x.sub,lstI (x.nms.map gneI),kyI x.key]).cons,.slice a0 n0 c0,.slice k0 m0 e0]:=f0
   refine opw_call 36 #[.tmp 13] _ _ _ rfl Tryz.func36 (by kernel_rfl) rfl #[.agg #[.int .i64 (boxI 3 [namI x.sub,lstI (x.nms.map gneI),kyI x.key]).cls,.int .i64 (boxI 3 [namI x.sub,lstI (x.nms.map gneI),kyI x.key]).tag,.bool (boxI 3 [namI x.sub,lstI (x.nms.map gneI),kyI x.key]).cons,.slice a0 n0 c0,.slice k0 m0 e0]] (by simp [ev,f0]) ?_
   refine (l2Bytes_Q o0 HE.out).mono ?_
   rintro r W2 ⟨a4,c4,rfl,ho,hb⟩
   exact ⟨_,rfl,hKQ.out _ _ (hI.put 11 14 rfl rfl (by rw [hz]; decide) rfl hUN rfl HBB (rq2s_stb s x l 0 w0.heap.size w.heap.size (w.heap.size)) hb ⟨a4,c4,rfl,ho.mono (Nat.le_trans HBB hI.bel.size)⟩)⟩
  ·intro lQ b W hI hUN hED KQ hKQ
   have f:=hI.got 11 (of_decide_eq_true rfl) (edge hED 11 (by kernel_rfl)) rfl
   exact opw_assign 14 rfl (hKQ.out _ _ (hI.put 12 2 rfl rfl (by rw [hz]; decide) rfl hUN rfl HBB (rq2s_stb s x l 0 w0.heap.size w.heap.size (w.heap.size)) (Below.refl _ _) f))
 ·intro b W hf hb F
  obtain ⟨a4,c4,e2,ho⟩:=F 12 (of_decide_eq_true rfl) rfl
  replace e2:aT b 2=.slice a4 l.length c4:=e2
  rw [hf.eq]
  simp only [puts,Act.put,List.setIfInBounds_toArray,List.set_cons_zero,List.set_cons_succ,e2]
  clear hf F e2
  generalize aT b=AT
  clear b
  go_wp2
  go_ret
  exact ⟨a4,c4,rfl,ho,B0.out.trans hb⟩
end Go.Proofs.YtmdfbnlgfhjnoaaGreatDoor
