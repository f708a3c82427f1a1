import Derived.Test.YtmdfbnlgfhjnoaaGreatDoorFC44
import Derived.Test.YtmdfbnlgfhjnoaaGreatDoorFC47
set_option maxRecDepth 10000
set_option maxHeartbeats 8000000
set_option linter.unusedVariables false
namespace Go.Proofs.YtmdfbnlgfhjnoaaGreatDoor
open Go.RowKit Go.Sort
def rqP (x:RQ):Prop:=ownP x.sub x.nms∧pubP x.key.1 x.key.2.1 x.key.2.2∧x.sig.length≤500∧anyP x.key.1 x.key.2.1 x.key.2.2 (rqBody x) x.sig
theorem sayQ_t {p:Prop}{v:Bool}(h:Hid (v=true↔p))(hp:p):v=true:=h.out.2 hp
theorem sayQ_f {p:Prop}{v:Bool}(h:Hid (v=true↔p))(hp:¬ p):v=false:=by
 cases v with
 | false=>rfl
 | true=>exact absurd (h.out.1 rfl) hp
theorem opw_lenQ {P:Program}{Q:Exit→Act→World→Prop}{o:Oper}{a:Act}{w:World}{K:Act→World→Prop}(x:Nat)(t e:TypeId)(ho:o.op=.call { callee:=.builtin .len,args:=#[.tmp x],argTypes:=#[t] })(ht:P.underlying t=some (.slice e))(p:Option Addr)(n c:Nat)(hx:aT a x=.slice p n c)(h:K (a.put o.dst (.int .i64 n)) w):o.wp P a w K Q:=by
 refine opw_value _ ?_ h
 have hx':a.eval (.tmp x)=.slice p n c:=hx
 simp [execOp,ho,resolve,invoke,builtin,hx',Result.andThen]
 simp [go_sem,ht]
theorem opw_leqQ {P:Program}{Q:Exit→Act→World→Prop}{o:Oper}{a:Act}{w:World}{K:Act→World→Prop}(t t2 x:Nat)(q:Int)(ho:o.op=.binOp .leq t (.tmp x) (.const (.int .i64 q)) t2)(p:Int)(hx:aT a x=.int .i64 p)(h:K (a.put o.dst (.bool (decide (p≤q)))) w):o.wp P a w K Q:=by
 refine opw_value _ ?_ h
 have hx':a.eval (.tmp x)=.int .i64 p:=hx
 have hc:a.eval (.const (.int .i64 q))=.int .i64 q:=rfl
 unfold execOp
 simp only [ho,hx',hc]
 simp [go_sem]
theorem l9ReqRight_any (s:RQS)(x:RQ)(w:World)(h:RQR w s x)(hz:RQZ x) :
  Calls Tryz.prog 65 #[.agg #[.slice s.a1 s.n1 s.c1,.slice s.a2 s.n2 s.c2,.int .i64 x.key.1,.int .u64 x.key.2.1,.int .i64 x.key.2.2,.slice s.a3 s.n3 s.c3]] w (Says (ownP x.sub x.nms) w):=by
 have hzn:=h.zn.1 hz
 obtain ⟨w0,hw0⟩:∃ w0,w0=w.alloc (.cells #[.slice s.a1 s.n1 s.c1,.slice s.a2 s.n2 s.c2,.int .i64 x.key.1,.int .u64 x.key.2.1,.int .i64 x.key.2.2,.slice s.a3 s.n3 s.c3] 62):=⟨_,rfl⟩
 have hB0:Below w.heap.size w w0:=by rw [hw0]; exact (Below.refl _ _).alloc (Nat.le_refl _) _
 have L0:Hid (w0.heap[w.heap.size]? = some (.cells #[.slice s.a1 s.n1 s.c1,.slice s.a2 s.n2 s.c2,.int .i64 x.key.1,.int .u64 x.key.2.1,.int .i64 x.key.2.2,.slice s.a3 s.n3 s.c3] 62 (0,0))):=by show _=_; rw [hw0]; exact heap_alloc_new w _
 have HNM:Hid (Calls Tryz.prog 75 #[.agg #[.slice s.a1 s.n1 s.c1]] w0 (Says (nameP x.sub) w0)):=specNameOk_any s.a1 s.n1 s.c1 x.sub w0 (h.r1.kept hB0) (fun k hk=>hzn.1.2 k hk)
 have HGN:Hid (∀ W,Below w.heap.size w W→Calls Tryz.prog 76 #[.slice s.a2 s.n2 s.c2] W (SaysB (gensP x.nms s.n2) W)):=fun W hW=>l9Gens_any s.a2 s.n2 s.c2 x.nms W (h.r2.kept hW) (fun k hk=>hzn.2.1.2 k hk)
 have HL1:Hid (x.sub.length=s.n1):=h.r1.len
 have HL2:Hid (x.nms.length=s.n2):=h.r2.len
 have HB0:Hid (Below w.heap.size w w0):=hB0
 have c0:w0.cell? ⟨w.heap.size,0,none⟩=some (.slice s.a1 s.n1 s.c1):=(cell_of_row _ _ 0 _ _ (0,0) L0.out).trans rfl
 have hlt0:w.heap.size<w0.heap.size:=(Array.getElem?_eq_some_iff.1 L0.out).1
 clear h hz hzn hB0
 go_enter Tryz.func65,Tryz.ntmps65
 go_upto_region 1 with fail
 rw [← hw0]
 clear hw0
 go_wp2_with fail
 refine HNM.out.mono ?_
 rintro e w1 ⟨v1,rfl,hv1,hb1⟩
 have B1:Hid (Below w.heap.size w w1):=HB0.out.trans (hb1.mono HB0.out.size)
 have L1:Hid (w1.heap[w.heap.size]? = some (.cells #[.slice s.a1 s.n1 s.c1,.slice s.a2 s.n2 s.c2,.int .i64 x.key.1,.int .u64 x.key.2.1,.int .i64 x.key.2.2,.slice s.a3 s.n3 s.c3] 62 (0,0))):=below_kept L0.out hb1
 have hlt1:w.heap.size<w1.heap.size:=(Array.getElem?_eq_some_iff.1 L1.out).1
 have d0:w1.cell? ⟨w.heap.size,0,none⟩=some (.slice s.a1 s.n1 s.c1):=(cell_of_row _ _ 0 _ _ (0,0) L1.out).trans rfl
 have d1:w1.cell? ⟨w.heap.size,1,none⟩=some (.slice s.a2 s.n2 s.c2):=(cell_of_row _ _ 1 _ _ (0,0) L1.out).trans rfl
 clear c0 hlt0 hb1 HNM
 cases v1 with
 | false =>
  have HN:Hid (¬ ownP x.sub x.nms):=fun q=>by have:=hv1.out.2 q.1; cases this
  go_wp2
  go_ret
  exact says_f HN.out B1.out
 | true =>
  have HNP:Hid (nameP x.sub):=hv1.out.1 rfl
  clear hv1
  go_wp2_with fail
  refine (HGN.out w1 B1.out).mono ?_
  rintro e w2 ⟨v2,rfl,hv2,hb2⟩
  have B2:Hid (Below w.heap.size w w2):=B1.out.trans (hb2.mono B1.out.size)
  have L2:Hid (w2.heap[w.heap.size]? = some (.cells #[.slice s.a1 s.n1 s.c1,.slice s.a2 s.n2 s.c2,.int .i64 x.key.1,.int .u64 x.key.2.1,.int .i64 x.key.2.2,.slice s.a3 s.n3 s.c3] 62 (0,0))):=below_kept L1.out hb2
  have hlt2:w.heap.size<w2.heap.size:=(Array.getElem?_eq_some_iff.1 L2.out).1
  have g0:w2.cell? ⟨w.heap.size,0,none⟩=some (.slice s.a1 s.n1 s.c1):=(cell_of_row _ _ 0 _ _ (0,0) L2.out).trans rfl
  have g1:w2.cell? ⟨w.heap.size,1,none⟩=some (.slice s.a2 s.n2 s.c2):=(cell_of_row _ _ 1 _ _ (0,0) L2.out).trans rfl
  clear d0 d1 hlt1 hb2
  cases v2 with
  | false =>
   have HN:Hid (¬ ownP x.sub x.nms):=fun q=>by have:=hv2.out.2 (by rw [← HL2.out]; exact q.2.2); cases this
   go_wp2
   go_ret
   exact says_f HN.out B2.out
  | true =>
   have HGP:Hid (gensP x.nms x.nms.length):=by show gensP _ _; rw [HL2.out]; exact hv2.out.1 rfl
   clear hv2
   by_cases h1:0<s.n1
   ·have h1i:(0:Int)<(s.n1:Int):=by omega
    have HY:Hid (ownP x.sub x.nms):=⟨HNP.out,.inl (fun e=>by have:=HL1.out; rw [e] at this; simp at this; omega),HGP.out⟩
    go_wp2
    go_ret
    exact says_t HY.out B2.out
   ·have h1i:¬ ((0:Int)<(s.n1:Int)):=by omega
    by_cases h2:0<s.n2
    ·have h2i:(0:Int)<(s.n2:Int):=by omega
     have HY:Hid (ownP x.sub x.nms):=⟨HNP.out,.inr (fun e=>by have:=HL2.out; rw [e] at this; simp at this; omega),HGP.out⟩
     go_wp2
     go_ret
     exact says_t HY.out B2.out
    ·have h2i:¬ ((0:Int)<(s.n2:Int)):=by omega
     have HN:Hid (¬ ownP x.sub x.nms):=fun q=>by
      rcases q.2.1 with q1 | q1
      ·exact q1 (List.eq_nil_of_length_eq_zero (by have:=HL1.out; omega))
      ·exact q1 (List.eq_nil_of_length_eq_zero (by have:=HL2.out; omega))
     go_wp2
     go_ret
     exact says_f HN.out B2.out
def riA (s:RQS)(x:RQ)(l:List Int)(vb:Bool)(G B:Nat):RSpec where
 m:=26
 n:=27
 slots:=[3,4,5,6,7,8,9,10,11,12,13,14,15,16,17,18,19,20,21,22,23,24,25,26,27,2,100026]
 kills:=[[],[],[],[],[],[],[],[],[],[],[],[],[],[],[],[],[],[],[],[],[],[],[],[],[],[],[]]
 pres:=[[],[],[],[],[],[],[],[],[],[],[],[],[],[],[],[],[],[],[],[],[],[],[],[],[],[],[]]
 fact:=fun k v w=>match k with
  | 0=>v=.pointer (some ⟨G,0,none⟩)
  | 1=>v=.agg #[.slice s.a1 s.n1 s.c1]
  | 2=>v=.pointer (some ⟨G,1,none⟩)
  | 3=>v=.slice s.a2 s.n2 s.c2
  | 4=>v=.bool false
  | 5=>v=.bool false
  | 6=>v=undef
  | 7=>v=undef
  | 8=>v=undef
  | 9=>v=.bool false
  | 10=>v=.bool false
  | 11=>v=undef
  | 12=>v=undef
  | 13=>v=undef
  | 14=>v=undef
  | 15=>v=.bool false
  | 16=>v=.bool false
  | 17=>v=undef
  | 18=>v=undef
  | 19=>v=undef
  | 20=>v=undef
  | 21=>v=undef
  | 22=>v=undef
  | 23=>v=undef
  | 24=>v=.bool false
  | 25=>v=.bool false
  | _=>w.heap[G]? = some (.cells #[.slice s.a1 s.n1 s.c1,.slice s.a2 s.n2 s.c2,.int .i64 x.key.1,.int .u64 x.key.2.1,.int .i64 x.key.2.2,.slice s.a3 s.n3 s.c3] 62 (0,0))
theorem riA_stb (s:RQS)(x:RQ)(l:List Int)(vb:Bool)(G B:Nat)(k:Nat)(hk:k<27):StB ((riA s x l vb G (B)).fact k):=by
 match k,hk with
 | 0,_=>exact fun _ _ _ h _=>h
 | 1,_=>exact fun _ _ _ h _=>h
 | 2,_=>exact fun _ _ _ h _=>h
 | 3,_=>exact fun _ _ _ h _=>h
 | 4,_=>exact fun _ _ _ h _=>h
 | 5,_=>exact fun _ _ _ h _=>h
 | 6,_=>exact fun _ _ _ h _=>h
 | 7,_=>exact fun _ _ _ h _=>h
 | 8,_=>exact fun _ _ _ h _=>h
 | 9,_=>exact fun _ _ _ h _=>h
 | 10,_=>exact fun _ _ _ h _=>h
 | 11,_=>exact fun _ _ _ h _=>h
 | 12,_=>exact fun _ _ _ h _=>h
 | 13,_=>exact fun _ _ _ h _=>h
 | 14,_=>exact fun _ _ _ h _=>h
 | 15,_=>exact fun _ _ _ h _=>h
 | 16,_=>exact fun _ _ _ h _=>h
 | 17,_=>exact fun _ _ _ h _=>h
 | 18,_=>exact fun _ _ _ h _=>h
 | 19,_=>exact fun _ _ _ h _=>h
 | 20,_=>exact fun _ _ _ h _=>h
 | 21,_=>exact fun _ _ _ h _=>h
 | 22,_=>exact fun _ _ _ h _=>h
 | 23,_=>exact fun _ _ _ h _=>h
 | 24,_=>exact fun _ _ _ h _=>h
 | 25,_=>exact fun _ _ _ h _=>h
 | 26,_=>exact fun _ _ _ q_0 hb=>below_kept q_0 hb
 | k+27,hk=>omega
def riB (s:RQS)(x:RQ)(l:List Int)(vb:Bool)(G B:Nat):RSpec where
 m:=26
 n:=27
 slots:=[3,4,5,6,7,8,9,10,11,12,13,14,15,16,17,18,19,20,21,22,23,24,25,26,27,2,100026]
 kills:=[[],[],[],[],[],[],[],[],[],[],[],[],[],[],[],[],[],[],[],[],[],[],[],[],[],[],[]]
 pres:=[[],[],[],[],[],[],[],[],[],[],[],[],[],[],[],[],[],[],[],[],[],[],[],[],[],[],[]]
 fact:=fun k v w=>match k with
  | 0=>v=.pointer (some ⟨G,0,none⟩)
  | 1=>v=.agg #[.slice s.a1 s.n1 s.c1]
  | 2=>v=.pointer (some ⟨G,1,none⟩)
  | 3=>v=.slice s.a2 s.n2 s.c2
  | 4=>v=.bool true
  | 5=>v=.bool true
  | 6=>v=.pointer (some ⟨G,2,none⟩)
  | 7=>v=.agg #[.int .i64 x.key.1,.int .u64 x.key.2.1,.int .i64 x.key.2.2]
  | 8=>v=.bool false
  | 9=>v=.bool false
  | 10=>v=.bool false
  | 11=>v=undef
  | 12=>v=undef
  | 13=>v=undef
  | 14=>v=undef
  | 15=>v=.bool false
  | 16=>v=.bool false
  | 17=>v=undef
  | 18=>v=undef
  | 19=>v=undef
  | 20=>v=undef
  | 21=>v=undef
  | 22=>v=undef
  | 23=>v=undef
  | 24=>v=.bool false
  | 25=>v=.bool false
  | _=>w.heap[G]? = some (.cells #[.slice s.a1 s.n1 s.c1,.slice s.a2 s.n2 s.c2,.int .i64 x.key.1,.int .u64 x.key.2.1,.int .i64 x.key.2.2,.slice s.a3 s.n3 s.c3] 62 (0,0))
theorem riB_stb (s:RQS)(x:RQ)(l:List Int)(vb:Bool)(G B:Nat)(k:Nat)(hk:k<27):StB ((riB s x l vb G (B)).fact k):=by
 match k,hk with
 | 0,_=>exact fun _ _ _ h _=>h
 | 1,_=>exact fun _ _ _ h _=>h
 | 2,_=>exact fun _ _ _ h _=>h
 | 3,_=>exact fun _ _ _ h _=>h
 | 4,_=>exact fun _ _ _ h _=>h
 | 5,_=>exact fun _ _ _ h _=>h
 | 6,_=>exact fun _ _ _ h _=>h
 | 7,_=>exact fun _ _ _ h _=>h
 | 8,_=>exact fun _ _ _ h _=>h
 | 9,_=>exact fun _ _ _ h _=>h
 | 10,_=>exact fun _ _ _ h _=>h
 | 11,_=>exact fun _ _ _ h _=>h
 | 12,_=>exact fun _ _ _ h _=>h
 | 13,_=>exact fun _ _ _ h _=>h
 | 14,_=>exact fun _ _ _ h _=>h
 | 15,_=>exact fun _ _ _ h _=>h
 | 16,_=>exact fun _ _ _ h _=>h
 | 17,_=>exact fun _ _ _ h _=>h
 | 18,_=>exact fun _ _ _ h _=>h
 | 19,_=>exact fun _ _ _ h _=>h
 | 20,_=>exact fun _ _ _ h _=>h
 | 21,_=>exact fun _ _ _ h _=>h
 | 22,_=>exact fun _ _ _ h _=>h
 | 23,_=>exact fun _ _ _ h _=>h
 | 24,_=>exact fun _ _ _ h _=>h
 | 25,_=>exact fun _ _ _ h _=>h
 | 26,_=>exact fun _ _ _ q_0 hb=>below_kept q_0 hb
 | k+27,hk=>omega
def riC (s:RQS)(x:RQ)(l:List Int)(vb:Bool)(G B:Nat):RSpec where
 m:=26
 n:=27
 slots:=[3,4,5,6,7,8,9,10,11,12,13,14,15,16,17,18,19,20,21,22,23,24,25,26,27,2,100026]
 kills:=[[],[],[],[],[],[],[],[],[],[],[],[],[],[],[],[],[],[],[],[],[],[],[],[],[],[],[]]
 pres:=[[],[],[],[],[],[],[],[],[],[],[],[],[],[],[],[],[],[],[],[],[],[],[],[],[],[],[]]
 fact:=fun k v w=>match k with
  | 0=>v=.pointer (some ⟨G,0,none⟩)
  | 1=>v=.agg #[.slice s.a1 s.n1 s.c1]
  | 2=>v=.pointer (some ⟨G,1,none⟩)
  | 3=>v=.slice s.a2 s.n2 s.c2
  | 4=>v=.bool true
  | 5=>v=.bool true
  | 6=>v=.pointer (some ⟨G,2,none⟩)
  | 7=>v=.agg #[.int .i64 x.key.1,.int .u64 x.key.2.1,.int .i64 x.key.2.2]
  | 8=>v=.bool true
  | 9=>v=.bool true
  | 10=>v=.bool true
  | 11=>v=.pointer (some ⟨G,5,none⟩)
  | 12=>v=.slice s.a3 s.n3 s.c3
  | 13=>v=.int .i64 s.n3
  | 14=>v=.bool false
  | 15=>v=.bool false
  | 16=>v=.bool false
  | 17=>v=undef
  | 18=>v=undef
  | 19=>v=undef
  | 20=>v=undef
  | 21=>v=undef
  | 22=>v=undef
  | 23=>v=undef
  | 24=>v=.bool false
  | 25=>v=.bool false
  | _=>w.heap[G]? = some (.cells #[.slice s.a1 s.n1 s.c1,.slice s.a2 s.n2 s.c2,.int .i64 x.key.1,.int .u64 x.key.2.1,.int .i64 x.key.2.2,.slice s.a3 s.n3 s.c3] 62 (0,0))
theorem riC_stb (s:RQS)(x:RQ)(l:List Int)(vb:Bool)(G B:Nat)(k:Nat)(hk:k<27):StB ((riC s x l vb G (B)).fact k):=by
 match k,hk with
 | 0,_=>exact fun _ _ _ h _=>h
 | 1,_=>exact fun _ _ _ h _=>h
 | 2,_=>exact fun _ _ _ h _=>h
 | 3,_=>exact fun _ _ _ h _=>h
 | 4,_=>exact fun _ _ _ h _=>h
 | 5,_=>exact fun _ _ _ h _=>h
 | 6,_=>exact fun _ _ _ h _=>h
 | 7,_=>exact fun _ _ _ h _=>h
 | 8,_=>exact fun _ _ _ h _=>h
 | 9,_=>exact fun _ _ _ h _=>h
 | 10,_=>exact fun _ _ _ h _=>h
 | 11,_=>exact fun _ _ _ h _=>h
 | 12,_=>exact fun _ _ _ h _=>h
 | 13,_=>exact fun _ _ _ h _=>h
 | 14,_=>exact fun _ _ _ h _=>h
 | 15,_=>exact fun _ _ _ h _=>h
 | 16,_=>exact fun _ _ _ h _=>h
 | 17,_=>exact fun _ _ _ h _=>h
 | 18,_=>exact fun _ _ _ h _=>h
 | 19,_=>exact fun _ _ _ h _=>h
 | 20,_=>exact fun _ _ _ h _=>h
 | 21,_=>exact fun _ _ _ h _=>h
 | 22,_=>exact fun _ _ _ h _=>h
 | 23,_=>exact fun _ _ _ h _=>h
 | 24,_=>exact fun _ _ _ h _=>h
 | 25,_=>exact fun _ _ _ h _=>h
 | 26,_=>exact fun _ _ _ q_0 hb=>below_kept q_0 hb
 | k+27,hk=>omega
def riD (s:RQS)(x:RQ)(l:List Int)(vb:Bool)(G B:Nat):RSpec where
 m:=26
 n:=27
 slots:=[3,4,5,6,7,8,9,10,11,12,13,14,15,16,17,18,19,20,21,22,23,24,25,26,27,2,100026]
 kills:=[[],[],[],[],[],[],[],[],[],[],[],[],[],[],[],[],[],[],[],[],[],[],[],[],[],[],[]]
 pres:=[[],[],[],[],[],[],[],[],[],[],[],[],[],[],[],[],[],[],[],[],[],[],[],[],[],[],[]]
 fact:=fun k v w=>match k with
  | 0=>v=.pointer (some ⟨G,0,none⟩)
  | 1=>v=.agg #[.slice s.a1 s.n1 s.c1]
  | 2=>v=.pointer (some ⟨G,1,none⟩)
  | 3=>v=.slice s.a2 s.n2 s.c2
  | 4=>v=.bool true
  | 5=>v=.bool true
  | 6=>v=.pointer (some ⟨G,2,none⟩)
  | 7=>v=.agg #[.int .i64 x.key.1,.int .u64 x.key.2.1,.int .i64 x.key.2.2]
  | 8=>v=.bool true
  | 9=>v=.bool true
  | 10=>v=.bool true
  | 11=>v=.pointer (some ⟨G,5,none⟩)
  | 12=>v=.slice s.a3 s.n3 s.c3
  | 13=>v=.int .i64 s.n3
  | 14=>v=.bool true
  | 15=>v=.bool true
  | 16=>v=.bool true
  | 17=>v=.pointer (some ⟨G,2,none⟩)
  | 18=>v=.agg #[.int .i64 x.key.1,.int .u64 x.key.2.1,.int .i64 x.key.2.2]
  | 19=>v=.agg #[.slice s.a1 s.n1 s.c1,.slice s.a2 s.n2 s.c2,.int .i64 x.key.1,.int .u64 x.key.2.1,.int .i64 x.key.2.2,.slice s.a3 s.n3 s.c3]
  | 20=>∃ a4 c4,v=.slice a4 l.length c4∧Own B w a4 l.length c4 l
  | 21=>v=.pointer (some ⟨G,5,none⟩)
  | 22=>v=.slice s.a3 s.n3 s.c3
  | 23=>v=.bool vb
  | 24=>v=.bool vb
  | 25=>v=.bool vb
  | _=>w.heap[G]? = some (.cells #[.slice s.a1 s.n1 s.c1,.slice s.a2 s.n2 s.c2,.int .i64 x.key.1,.int .u64 x.key.2.1,.int .i64 x.key.2.2,.slice s.a3 s.n3 s.c3] 62 (0,0))
theorem riD_stb (s:RQS)(x:RQ)(l:List Int)(vb:Bool)(G B:Nat)(k:Nat)(hk:k<27):StB ((riD s x l vb G (B)).fact k):=by
 match k,hk with
 | 0,_=>exact fun _ _ _ h _=>h
 | 1,_=>exact fun _ _ _ h _=>h
 | 2,_=>exact fun _ _ _ h _=>h
 | 3,_=>exact fun _ _ _ h _=>h
 | 4,_=>exact fun _ _ _ h _=>h
 | 5,_=>exact fun _ _ _ h _=>h
 | 6,_=>exact fun _ _ _ h _=>h
 | 7,_=>exact fun _ _ _ h _=>h
 | 8,_=>exact fun _ _ _ h _=>h
 | 9,_=>exact fun _ _ _ h _=>h
 | 10,_=>exact fun _ _ _ h _=>h
 | 11,_=>exact fun _ _ _ h _=>h
 | 12,_=>exact fun _ _ _ h _=>h
 | 13,_=>exact fun _ _ _ h _=>h
 | 14,_=>exact fun _ _ _ h _=>h
 | 15,_=>exact fun _ _ _ h _=>h
 | 16,_=>exact fun _ _ _ h _=>h
 | 17,_=>exact fun _ _ _ h _=>h
 | 18,_=>exact fun _ _ _ h _=>h
 | 19,_=>exact fun _ _ _ h _=>h
 | 20,_=>exact fun _ _ _ ⟨a4,c4,hv,q_0⟩ hb=>⟨a4,c4,hv,q_0.kept hb⟩
 | 21,_=>exact fun _ _ _ h _=>h
 | 22,_=>exact fun _ _ _ h _=>h
 | 23,_=>exact fun _ _ _ h _=>h
 | 24,_=>exact fun _ _ _ h _=>h
 | 25,_=>exact fun _ _ _ h _=>h
 | 26,_=>exact fun _ _ _ q_0 hb=>below_kept q_0 hb
 | k+27,hk=>omega
theorem implReqOk_any (s:RQS)(x:RQ)(w:World)(hm:MaxW w)(h:RQR w s x)(hz:RQZ x)(ht:RQT s)(hu:U64 x.key.2.1) :
  Calls Tryz.prog 27 #[RQv s x] w (Says (rqP x) w):=by
 have hzn:=h.zn.1 hz
 show Calls Tryz.prog 27 #[.agg #[.slice s.a1 s.n1 s.c1,.slice s.a2 s.n2 s.c2,.int .i64 x.key.1,.int .u64 x.key.2.1,.int .i64 x.key.2.2,.slice s.a3 s.n3 s.c3]] w _
 obtain ⟨w0,hw0⟩:∃ w0,w0=w.alloc (.cells #[.slice s.a1 s.n1 s.c1,.slice s.a2 s.n2 s.c2,.int .i64 x.key.1,.int .u64 x.key.2.1,.int .i64 x.key.2.2,.slice s.a3 s.n3 s.c3] 62):=⟨_,rfl⟩
 have hB0:Below w.heap.size w w0:=by rw [hw0]; exact (Below.refl _ _).alloc (Nat.le_refl _) _
 have L0:Hid (w0.heap[w.heap.size]? = some (.cells #[.slice s.a1 s.n1 s.c1,.slice s.a2 s.n2 s.c2,.int .i64 x.key.1,.int .u64 x.key.2.1,.int .i64 x.key.2.2,.slice s.a3 s.n3 s.c3] 62 (0,0))):=by show _=_; rw [hw0]; exact heap_alloc_new w _
 have HW:Hid (_=_):=hw0
 have HBB:w.heap.size≤w0.heap.size:=hB0.size
 have hln:x.sig.length=s.n3:=h.r3.len
 have how:∀ W,Below w.heap.size w0 W→Calls Tryz.prog 68 #[.agg #[.slice s.a1 s.n1 s.c1],.slice s.a2 s.n2 s.c2] W (Says (ownP x.sub x.nms) W):=fun W hW=>ownerOk_any s.a1 s.n1 s.c1 x.sub s.a2 s.n2 s.c2 x.nms W (hm.kept (hB0.trans hW)) (h.r1.kept (hB0.trans hW)) (fun k hk=>hzn.1.2 k hk) (h.r2.kept (hB0.trans hW)) (fun k hk=>hzn.2.1.2 k hk) hzn.1.1 hzn.2.1.1
 clear hw0
 by_cases ho:ownP x.sub x.nms
 case neg =>
  have HN:Hid (¬ rqP x):=fun q=>ho q.1
  have HOW:Hid (∀ W,Below w.heap.size w0 W→Calls Tryz.prog 68 #[.agg #[.slice s.a1 s.n1 s.c1],.slice s.a2 s.n2 s.c2] W fun e w'=>e=.returned (.bool false)∧Below W.heap.size W w'):=fun W hW=>(how W hW).mono (fun e w' q=>by
   obtain ⟨v,e1,e2,e3⟩:=q
   obtain rfl:=sayQ_f e2 ho
   exact ⟨e1,e3⟩)
  obtain ⟨l,hl⟩:∃ l:List Int,l = []:=⟨_,rfl⟩
  obtain ⟨vb,hv⟩:∃ vb:Bool,vb=false:=⟨_,rfl⟩
  clear how ho h hz ht hu hzn hln hl hv hm
  go_enter Tryz.func27,Tryz.ntmps27
  go_upto_region 1 with fail
  rw [← HW.out]
  clear HW
  refine wp_region_rk (riA s x l vb w.heap.size (w.heap.size)) [2,3,4,5,6,7,8,9,10,11,12,13,14,15,16,17,18,19,20,21,22,23,24,25,26,27] (w.heap.size) (fun a0=>a0.tmps.size=28∧aT a0 1=.pointer (some ⟨w.heap.size,0,none⟩)) (by kernel_rfl) rfl (by kernel_rfl) rfl ⟨rfl,rfl⟩ (riA_stb s x l vb w.heap.size (w.heap.size)) ?_ ?_ ?_
  ·intro k hk hk2
   match k,hk,hk2 with
   | 26,_,_=>exact L0.out
   | 0,hk,_=>exact absurd hk (by show ¬ (26≤0); omega)
   | 1,hk,_=>exact absurd hk (by show ¬ (26≤1); omega)
   | 2,hk,_=>exact absurd hk (by show ¬ (26≤2); omega)
   | 3,hk,_=>exact absurd hk (by show ¬ (26≤3); omega)
   | 4,hk,_=>exact absurd hk (by show ¬ (26≤4); omega)
   | 5,hk,_=>exact absurd hk (by show ¬ (26≤5); omega)
   | 6,hk,_=>exact absurd hk (by show ¬ (26≤6); omega)
   | 7,hk,_=>exact absurd hk (by show ¬ (26≤7); omega)
   | 8,hk,_=>exact absurd hk (by show ¬ (26≤8); omega)
   | 9,hk,_=>exact absurd hk (by show ¬ (26≤9); omega)
   | 10,hk,_=>exact absurd hk (by show ¬ (26≤10); omega)
   | 11,hk,_=>exact absurd hk (by show ¬ (26≤11); omega)
   | 12,hk,_=>exact absurd hk (by show ¬ (26≤12); omega)
   | 13,hk,_=>exact absurd hk (by show ¬ (26≤13); omega)
   | 14,hk,_=>exact absurd hk (by show ¬ (26≤14); omega)
   | 15,hk,_=>exact absurd hk (by show ¬ (26≤15); omega)
   | 16,hk,_=>exact absurd hk (by show ¬ (26≤16); omega)
   | 17,hk,_=>exact absurd hk (by show ¬ (26≤17); omega)
   | 18,hk,_=>exact absurd hk (by show ¬ (26≤18); omega)
   | 19,hk,_=>exact absurd hk (by show ¬ (26≤19); omega)
   | 20,hk,_=>exact absurd hk (by show ¬ (26≤20); omega)
   | 21,hk,_=>exact absurd hk (by show ¬ (26≤21); omega)
   | 22,hk,_=>exact absurd hk (by show ¬ (26≤22); omega)
   | 23,hk,_=>exact absurd hk (by show ¬ (26≤23); omega)
   | 24,hk,_=>exact absurd hk (by show ¬ (26≤24); omega)
   | 25,hk,_=>exact absurd hk (by show ¬ (26≤25); omega)
   | k+27,_,hk2=>exact absurd hk2 (by show ¬ (k+27<27); omega)
  ·rintro a0 ⟨hz,g1⟩
   refine StepsRK.cons ?_ (StepsRK.cons ?_ (StepsRK.cons ?_ (StepsRK.cons ?_ (StepsRK.cons ?_ (StepsRK.cons ?_ (StepsRK.cons ?_ (StepsRK.cons ?_ (StepsRK.cons ?_ (StepsRK.cons ?_ (StepsRK.cons ?_ (StepsRK.cons ?_ (StepsRK.cons ?_ (StepsRK.cons ?_ (StepsRK.cons ?_ (StepsRK.cons ?_ (StepsRK.cons ?_ (StepsRK.cons ?_ (StepsRK.cons ?_ (StepsRK.cons ?_ (StepsRK.cons ?_ (StepsRK.cons ?_ (StepsRK.cons ?_ (StepsRK.cons ?_ (StepsRK.cons ?_ (StepsRK.cons ?_ (StepsRK.nil))))))))))))))))))))))))))
   ·intro lQ b W hI hUN hED KQ hKQ
    refine rk_plain rfl ?_
    exact opw_field 62 1 0 rfl _ ((hI.fr.same 1 (by decide)).trans g1) _ (by kernel_rfl) (hKQ.out _ _ (hI.put 0 3 rfl rfl (by rw [hz]; decide) rfl hUN rfl HBB (riA_stb s x l vb w.heap.size (w.heap.size)) (Below.refl _ _) rfl))
   ·intro lQ b W hI hUN hED KQ hKQ
    refine rk_plain rfl ?_
    have f:aT b 3=.pointer (some ⟨w.heap.size,0,none⟩):=hI.got 0 (of_decide_eq_true rfl) (edge hED 0 (by kernel_rfl)) rfl
    have hg:=(hI.vot 26 (of_decide_eq_true rfl) (of_decide_eq_true rfl) rfl)
    have hc0:W.cell? ⟨w.heap.size,0,none⟩=some (.slice s.a1 s.n1 s.c1):=(cell_of_row _ _ 0 _ _ (0,0) hg).trans rfl
    exact opw_load1 40 3 rfl _ f _ (by simp [Instr.loadAt,go_sem,hc0]) (hKQ.out _ _ (hI.put 1 4 rfl rfl (by rw [hz]; decide) rfl hUN rfl HBB (riA_stb s x l vb w.heap.size (w.heap.size)) (Below.refl _ _) rfl))
   ·intro lQ b W hI hUN hED KQ hKQ
    refine rk_plain rfl ?_
    exact opw_field 62 1 1 rfl _ ((hI.fr.same 1 (by decide)).trans g1) _ (by kernel_rfl) (hKQ.out _ _ (hI.put 2 5 rfl rfl (by rw [hz]; decide) rfl hUN rfl HBB (riA_stb s x l vb w.heap.size (w.heap.size)) (Below.refl _ _) rfl))
   ·intro lQ b W hI hUN hED KQ hKQ
    refine rk_plain rfl ?_
    have f:=hI.got 2 (of_decide_eq_true rfl) (edge hED 2 (by kernel_rfl)) rfl
    have hg:=(hI.vot 26 (of_decide_eq_true rfl) (of_decide_eq_true rfl) rfl)
    have hc:W.cell? ⟨w.heap.size,1,none⟩=some (.slice s.a2 s.n2 s.c2):=(cell_of_row _ _ 1 _ _ (0,0) hg).trans rfl
    exact opw_load1 42 5 rfl _ f _ (by simp [Instr.loadAt,go_sem,hc]) (hKQ.out _ _ (hI.put 3 6 rfl rfl (by rw [hz]; decide) rfl hUN rfl HBB (riA_stb s x l vb w.heap.size (w.heap.size)) (Below.refl _ _) rfl))
   ·intro lQ b W hI hUN hED KQ hKQ
    refine rk_plain rfl ?_
    have f0:aT b 4=.agg #[.slice s.a1 s.n1 s.c1]:=hI.got 1 (of_decide_eq_true rfl) (edge hED 1 (by kernel_rfl)) rfl
    have f1:aT b 6=.slice s.a2 s.n2 s.c2:=hI.got 3 (of_decide_eq_true rfl) (edge hED 3 (by kernel_rfl)) rfl
    refine opw_call 68 #[.tmp 4,.tmp 6] _ _ _ rfl Tryz.func68 (by kernel_rfl) rfl #[.agg #[.slice s.a1 s.n1 s.c1],.slice s.a2 s.n2 s.c2] (by simp [ev,f0,f1]) ?_
    refine (HOW.out W hI.bel).mono ?_
    rintro r W2 ⟨rfl,hb⟩
    exact ⟨_,rfl,hKQ.out _ _ (hI.put 4 7 rfl rfl (by rw [hz]; decide) rfl hUN rfl HBB (riA_stb s x l vb w.heap.size (w.heap.size)) hb rfl)⟩
   ·intro lQ b W hI hUN hED KQ hKQ
    refine rk_plain rfl ?_
    have f:=hI.got 4 (of_decide_eq_true rfl) (edge hED 4 (by kernel_rfl)) rfl
    exact opw_move 7 rfl (hKQ.out _ _ (hI.put 5 8 rfl rfl (by rw [hz]; decide) rfl hUN rfl HBB (riA_stb s x l vb w.heap.size (w.heap.size)) (Below.refl _ _) f))
   ·intro lQ b W hI hUN hED KQ hKQ
    exact rk_skip 5 true 8 (.bool false) rfl rfl (hI.got 5 (of_decide_eq_true rfl) (edge hED 5 (by kernel_rfl)) rfl) rfl (hKQ.out _ _ (hI.put 6 9 rfl rfl (by rw [hz]; decide) rfl hUN rfl HBB (riA_stb s x l vb w.heap.size (w.heap.size)) (Below.refl _ _) rfl))
   ·intro lQ b W hI hUN hED KQ hKQ
    exact rk_skip 5 true 8 (.bool false) rfl rfl (hI.got 5 (of_decide_eq_true rfl) (edge hED 5 (by kernel_rfl)) rfl) rfl (hKQ.out _ _ (hI.put 7 10 rfl rfl (by rw [hz]; decide) rfl hUN rfl HBB (riA_stb s x l vb w.heap.size (w.heap.size)) (Below.refl _ _) rfl))
   ·intro lQ b W hI hUN hED KQ hKQ
    exact rk_skip 5 true 8 (.bool false) rfl rfl (hI.got 5 (of_decide_eq_true rfl) (edge hED 5 (by kernel_rfl)) rfl) rfl (hKQ.out _ _ (hI.put 8 11 rfl rfl (by rw [hz]; decide) rfl hUN rfl HBB (riA_stb s x l vb w.heap.size (w.heap.size)) (Below.refl _ _) rfl))
   ·intro lQ b W hI hUN hED KQ hKQ
    refine rk_plain rfl ?_
    have fc:aT b 8=.bool false:=hI.got 5 (of_decide_eq_true rfl) (edge hED 5 (by kernel_rfl)) rfl
    exact opw_pick_f 8 _ _ rfl fc _ rfl (hKQ.out _ _ (hI.put 9 12 rfl rfl (by rw [hz]; decide) rfl hUN rfl HBB (riA_stb s x l vb w.heap.size (w.heap.size)) (Below.refl _ _) rfl))
   ·intro lQ b W hI hUN hED KQ hKQ
    refine rk_plain rfl ?_
    have f:=hI.got 9 (of_decide_eq_true rfl) (edge hED 9 (by kernel_rfl)) rfl
    exact opw_move 12 rfl (hKQ.out _ _ (hI.put 10 13 rfl rfl (by rw [hz]; decide) rfl hUN rfl HBB (riA_stb s x l vb w.heap.size (w.heap.size)) (Below.refl _ _) f))
   ·intro lQ b W hI hUN hED KQ hKQ
    exact rk_skip 10 true 13 (.bool false) rfl rfl (hI.got 10 (of_decide_eq_true rfl) (edge hED 10 (by kernel_rfl)) rfl) rfl (hKQ.out _ _ (hI.put 11 14 rfl rfl (by rw [hz]; decide) rfl hUN rfl HBB (riA_stb s x l vb w.heap.size (w.heap.size)) (Below.refl _ _) rfl))
   ·intro lQ b W hI hUN hED KQ hKQ
    exact rk_skip 10 true 13 (.bool false) rfl rfl (hI.got 10 (of_decide_eq_true rfl) (edge hED 10 (by kernel_rfl)) rfl) rfl (hKQ.out _ _ (hI.put 12 15 rfl rfl (by rw [hz]; decide) rfl hUN rfl HBB (riA_stb s x l vb w.heap.size (w.heap.size)) (Below.refl _ _) rfl))
   ·intro lQ b W hI hUN hED KQ hKQ
    exact rk_skip 10 true 13 (.bool false) rfl rfl (hI.got 10 (of_decide_eq_true rfl) (edge hED 10 (by kernel_rfl)) rfl) rfl (hKQ.out _ _ (hI.put 13 16 rfl rfl (by rw [hz]; decide) rfl hUN rfl HBB (riA_stb s x l vb w.heap.size (w.heap.size)) (Below.refl _ _) rfl))
   ·intro lQ b W hI hUN hED KQ hKQ
    exact rk_skip 10 true 13 (.bool false) rfl rfl (hI.got 10 (of_decide_eq_true rfl) (edge hED 10 (by kernel_rfl)) rfl) rfl (hKQ.out _ _ (hI.put 14 17 rfl rfl (by rw [hz]; decide) rfl hUN rfl HBB (riA_stb s x l vb w.heap.size (w.heap.size)) (Below.refl _ _) rfl))
   ·intro lQ b W hI hUN hED KQ hKQ
    refine rk_plain rfl ?_
    have fc:aT b 13=.bool false:=hI.got 10 (of_decide_eq_true rfl) (edge hED 10 (by kernel_rfl)) rfl
    exact opw_pick_f 13 _ _ rfl fc _ rfl (hKQ.out _ _ (hI.put 15 18 rfl rfl (by rw [hz]; decide) rfl hUN rfl HBB (riA_stb s x l vb w.heap.size (w.heap.size)) (Below.refl _ _) rfl))
   ·intro lQ b W hI hUN hED KQ hKQ
    refine rk_plain rfl ?_
    have f:=hI.got 15 (of_decide_eq_true rfl) (edge hED 15 (by kernel_rfl)) rfl
    exact opw_move 18 rfl (hKQ.out _ _ (hI.put 16 19 rfl rfl (by rw [hz]; decide) rfl hUN rfl HBB (riA_stb s x l vb w.heap.size (w.heap.size)) (Below.refl _ _) f))
   ·intro lQ b W hI hUN hED KQ hKQ
    exact rk_skip 16 true 19 (.bool false) rfl rfl (hI.got 16 (of_decide_eq_true rfl) (edge hED 16 (by kernel_rfl)) rfl) rfl (hKQ.out _ _ (hI.put 17 20 rfl rfl (by rw [hz]; decide) rfl hUN rfl HBB (riA_stb s x l vb w.heap.size (w.heap.size)) (Below.refl _ _) rfl))
   ·intro lQ b W hI hUN hED KQ hKQ
    exact rk_skip 16 true 19 (.bool false) rfl rfl (hI.got 16 (of_decide_eq_true rfl) (edge hED 16 (by kernel_rfl)) rfl) rfl (hKQ.out _ _ (hI.put 18 21 rfl rfl (by rw [hz]; decide) rfl hUN rfl HBB (riA_stb s x l vb w.heap.size (w.heap.size)) (Below.refl _ _) rfl))
   ·intro lQ b W hI hUN hED KQ hKQ
    exact rk_skip 16 true 19 (.bool false) rfl rfl (hI.got 16 (of_decide_eq_true rfl) (edge hED 16 (by kernel_rfl)) rfl) rfl (hKQ.out _ _ (hI.put 19 22 rfl rfl (by rw [hz]; decide) rfl hUN rfl HBB (riA_stb s x l vb w.heap.size (w.heap.size)) (Below.refl _ _) rfl))
   ·intro lQ b W hI hUN hED KQ hKQ
    exact rk_skip 16 true 19 (.bool false) rfl rfl (hI.got 16 (of_decide_eq_true rfl) (edge hED 16 (by kernel_rfl)) rfl) rfl (hKQ.out _ _ (hI.put 20 23 rfl rfl (by rw [hz]; decide) rfl hUN rfl HBB (riA_stb s x l vb w.heap.size (w.heap.size)) (Below.refl _ _) rfl))
   ·intro lQ b W hI hUN hED KQ hKQ
    exact rk_skip 16 true 19 (.bool false) rfl rfl (hI.got 16 (of_decide_eq_true rfl) (edge hED 16 (by kernel_rfl)) rfl) rfl (hKQ.out _ _ (hI.put 21 24 rfl rfl (by rw [hz]; decide) rfl hUN rfl HBB (riA_stb s x l vb w.heap.size (w.heap.size)) (Below.refl _ _) rfl))
   ·intro lQ b W hI hUN hED KQ hKQ
    exact rk_skip 16 true 19 (.bool false) rfl rfl (hI.got 16 (of_decide_eq_true rfl) (edge hED 16 (by kernel_rfl)) rfl) rfl (hKQ.out _ _ (hI.put 22 25 rfl rfl (by rw [hz]; decide) rfl hUN rfl HBB (riA_stb s x l vb w.heap.size (w.heap.size)) (Below.refl _ _) rfl))
   ·intro lQ b W hI hUN hED KQ hKQ
    exact rk_skip 16 true 19 (.bool false) rfl rfl (hI.got 16 (of_decide_eq_true rfl) (edge hED 16 (by kernel_rfl)) rfl) rfl (hKQ.out _ _ (hI.put 23 26 rfl rfl (by rw [hz]; decide) rfl hUN rfl HBB (riA_stb s x l vb w.heap.size (w.heap.size)) (Below.refl _ _) rfl))
   ·intro lQ b W hI hUN hED KQ hKQ
    refine rk_plain rfl ?_
    have fc:aT b 19=.bool false:=hI.got 16 (of_decide_eq_true rfl) (edge hED 16 (by kernel_rfl)) rfl
    exact opw_pick_f 19 _ _ rfl fc _ rfl (hKQ.out _ _ (hI.put 24 27 rfl rfl (by rw [hz]; decide) rfl hUN rfl HBB (riA_stb s x l vb w.heap.size (w.heap.size)) (Below.refl _ _) rfl))
   ·intro lQ b W hI hUN hED KQ hKQ
    refine rk_plain rfl ?_
    have f:=hI.got 24 (of_decide_eq_true rfl) (edge hED 24 (by kernel_rfl)) rfl
    exact opw_assign 27 rfl (hKQ.out _ _ (hI.put 25 2 rfl rfl (by rw [hz]; decide) rfl hUN rfl HBB (riA_stb s x l vb w.heap.size (w.heap.size)) (Below.refl _ _) f))
  ·intro b W hf hb F
   have e2:aT b 2=.bool false:=F 25 (of_decide_eq_true rfl) rfl
   rw [hf.eq]
   simp only [puts,Act.put,List.setIfInBounds_toArray,List.set_cons_zero,List.set_cons_succ,e2]
   clear hf F e2
   generalize aT b=AT
   clear b
   go_wp2
   go_ret
   exact says_f HN.out (hB0.trans hb)
 have HOW:Hid (∀ W,Below w.heap.size w0 W→Calls Tryz.prog 68 #[.agg #[.slice s.a1 s.n1 s.c1],.slice s.a2 s.n2 s.c2] W fun e w'=>e=.returned (.bool true)∧Below W.heap.size W w'):=fun W hW=>(how W hW).mono (fun e w' q=>by
  obtain ⟨v,e1,e2,e3⟩:=q
  obtain rfl:=sayQ_t e2 ho
  exact ⟨e1,e3⟩)
 by_cases hp:pubP x.key.1 x.key.2.1 x.key.2.2
 case neg =>
  have HN:Hid (¬ rqP x):=fun q=>hp q.2.1
  have HPU:Hid (∀ W,Below w.heap.size w0 W→Calls Tryz.prog 69 #[.agg #[.int .i64 x.key.1,.int .u64 x.key.2.1,.int .i64 x.key.2.2]] W fun e w'=>e=.returned (.bool false)∧Below W.heap.size W w'):=fun W hW=>(pubOk_any x.key.1 x.key.2.1 x.key.2.2 W hu).mono (fun e w' q=>by rw [decide_eq_false hp] at q; exact q)
  obtain ⟨l,hl⟩:∃ l:List Int,l = []:=⟨_,rfl⟩
  obtain ⟨vb,hv⟩:∃ vb:Bool,vb=false:=⟨_,rfl⟩
  clear how ho hp h hz ht hu hzn hln hl hv hm
  go_enter Tryz.func27,Tryz.ntmps27
  go_upto_region 1 with fail
  rw [← HW.out]
  clear HW
  refine wp_region_rk (riB s x l vb w.heap.size (w.heap.size)) [2,3,4,5,6,7,8,9,10,11,12,13,14,15,16,17,18,19,20,21,22,23,24,25,26,27] (w.heap.size) (fun a0=>a0.tmps.size=28∧aT a0 1=.pointer (some ⟨w.heap.size,0,none⟩)) (by kernel_rfl) rfl (by kernel_rfl) rfl ⟨rfl,rfl⟩ (riB_stb s x l vb w.heap.size (w.heap.size)) ?_ ?_ ?_
  ·intro k hk hk2
   match k,hk,hk2 with
   | 26,_,_=>exact L0.out
   | 0,hk,_=>exact absurd hk (by show ¬ (26≤0); omega)
   | 1,hk,_=>exact absurd hk (by show ¬ (26≤1); omega)
   | 2,hk,_=>exact absurd hk (by show ¬ (26≤2); omega)
   | 3,hk,_=>exact absurd hk (by show ¬ (26≤3); omega)
   | 4,hk,_=>exact absurd hk (by show ¬ (26≤4); omega)
   | 5,hk,_=>exact absurd hk (by show ¬ (26≤5); omega)
   | 6,hk,_=>exact absurd hk (by show ¬ (26≤6); omega)
   | 7,hk,_=>exact absurd hk (by show ¬ (26≤7); omega)
   | 8,hk,_=>exact absurd hk (by show ¬ (26≤8); omega)
   | 9,hk,_=>exact absurd hk (by show ¬ (26≤9); omega)
   | 10,hk,_=>exact absurd hk (by show ¬ (26≤10); omega)
   | 11,hk,_=>exact absurd hk (by show ¬ (26≤11); omega)
   | 12,hk,_=>exact absurd hk (by show ¬ (26≤12); omega)
   | 13,hk,_=>exact absurd hk (by show ¬ (26≤13); omega)
   | 14,hk,_=>exact absurd hk (by show ¬ (26≤14); omega)
   | 15,hk,_=>exact absurd hk (by show ¬ (26≤15); omega)
   | 16,hk,_=>exact absurd hk (by show ¬ (26≤16); omega)
   | 17,hk,_=>exact absurd hk (by show ¬ (26≤17); omega)
   | 18,hk,_=>exact absurd hk (by show ¬ (26≤18); omega)
   | 19,hk,_=>exact absurd hk (by show ¬ (26≤19); omega)
   | 20,hk,_=>exact absurd hk (by show ¬ (26≤20); omega)
   | 21,hk,_=>exact absurd hk (by show ¬ (26≤21); omega)
   | 22,hk,_=>exact absurd hk (by show ¬ (26≤22); omega)
   | 23,hk,_=>exact absurd hk (by show ¬ (26≤23); omega)
   | 24,hk,_=>exact absurd hk (by show ¬ (26≤24); omega)
   | 25,hk,_=>exact absurd hk (by show ¬ (26≤25); omega)
   | k+27,_,hk2=>exact absurd hk2 (by show ¬ (k+27<27); omega)
  ·rintro a0 ⟨hz,g1⟩
   refine StepsRK.cons ?_ (StepsRK.cons ?_ (StepsRK.cons ?_ (StepsRK.cons ?_ (StepsRK.cons ?_ (StepsRK.cons ?_ (StepsRK.cons ?_ (StepsRK.cons ?_ (StepsRK.cons ?_ (StepsRK.cons ?_ (StepsRK.cons ?_ (StepsRK.cons ?_ (StepsRK.cons ?_ (StepsRK.cons ?_ (StepsRK.cons ?_ (StepsRK.cons ?_ (StepsRK.cons ?_ (StepsRK.cons ?_ (StepsRK.cons ?_ (StepsRK.cons ?_ (StepsRK.cons ?_ (StepsRK.cons ?_ (StepsRK.cons ?_ (StepsRK.cons ?_ (StepsRK.cons ?_ (StepsRK.cons ?_ (StepsRK.nil))))))))))))))))))))))))))
   ·intro lQ b W hI hUN hED KQ hKQ
    refine rk_plain rfl ?_
    exact opw_field 62 1 0 rfl _ ((hI.fr.same 1 (by decide)).trans g1) _ (by kernel_rfl) (hKQ.out _ _ (hI.put 0 3 rfl rfl (by rw [hz]; decide) rfl hUN rfl HBB (riB_stb s x l vb w.heap.size (w.heap.size)) (Below.refl _ _) rfl))
   ·intro lQ b W hI hUN hED KQ hKQ
    refine rk_plain rfl ?_
    have f:aT b 3=.pointer (some ⟨w.heap.size,0,none⟩):=hI.got 0 (of_decide_eq_true rfl) (edge hED 0 (by kernel_rfl)) rfl
    have hg:=(hI.vot 26 (of_decide_eq_true rfl) (of_decide_eq_true rfl) rfl)
    have hc0:W.cell? ⟨w.heap.size,0,none⟩=some (.slice s.a1 s.n1 s.c1):=(cell_of_row _ _ 0 _ _ (0,0) hg).trans rfl
    exact opw_load1 40 3 rfl _ f _ (by simp [Instr.loadAt,go_sem,hc0]) (hKQ.out _ _ (hI.put 1 4 rfl rfl (by rw [hz]; decide) rfl hUN rfl HBB (riB_stb s x l vb w.heap.size (w.heap.size)) (Below.refl _ _) rfl))
   ·intro lQ b W hI hUN hED KQ hKQ
    refine rk_plain rfl ?_
    exact opw_field 62 1 1 rfl _ ((hI.fr.same 1 (by decide)).trans g1) _ (by kernel_rfl) (hKQ.out _ _ (hI.put 2 5 rfl rfl (by rw [hz]; decide) rfl hUN rfl HBB (riB_stb s x l vb w.heap.size (w.heap.size)) (Below.refl _ _) rfl))
   ·intro lQ b W hI hUN hED KQ hKQ
    refine rk_plain rfl ?_
    have f:=hI.got 2 (of_decide_eq_true rfl) (edge hED 2 (by kernel_rfl)) rfl
    have hg:=(hI.vot 26 (of_decide_eq_true rfl) (of_decide_eq_true rfl) rfl)
    have hc:W.cell? ⟨w.heap.size,1,none⟩=some (.slice s.a2 s.n2 s.c2):=(cell_of_row _ _ 1 _ _ (0,0) hg).trans rfl
    exact opw_load1 42 5 rfl _ f _ (by simp [Instr.loadAt,go_sem,hc]) (hKQ.out _ _ (hI.put 3 6 rfl rfl (by rw [hz]; decide) rfl hUN rfl HBB (riB_stb s x l vb w.heap.size (w.heap.size)) (Below.refl _ _) rfl))
   ·intro lQ b W hI hUN hED KQ hKQ
    refine rk_plain rfl ?_
    have f0:aT b 4=.agg #[.slice s.a1 s.n1 s.c1]:=hI.got 1 (of_decide_eq_true rfl) (edge hED 1 (by kernel_rfl)) rfl
    have f1:aT b 6=.slice s.a2 s.n2 s.c2:=hI.got 3 (of_decide_eq_true rfl) (edge hED 3 (by kernel_rfl)) rfl
    refine opw_call 68 #[.tmp 4,.tmp 6] _ _ _ rfl Tryz.func68 (by kernel_rfl) rfl #[.agg #[.slice s.a1 s.n1 s.c1],.slice s.a2 s.n2 s.c2] (by simp [ev,f0,f1]) ?_
    refine (HOW.out W hI.bel).mono ?_
    rintro r W2 ⟨rfl,hb⟩
    exact ⟨_,rfl,hKQ.out _ _ (hI.put 4 7 rfl rfl (by rw [hz]; decide) rfl hUN rfl HBB (riB_stb s x l vb w.heap.size (w.heap.size)) hb rfl)⟩
   ·intro lQ b W hI hUN hED KQ hKQ
    refine rk_plain rfl ?_
    have f:=hI.got 4 (of_decide_eq_true rfl) (edge hED 4 (by kernel_rfl)) rfl
    exact opw_move 7 rfl (hKQ.out _ _ (hI.put 5 8 rfl rfl (by rw [hz]; decide) rfl hUN rfl HBB (riB_stb s x l vb w.heap.size (w.heap.size)) (Below.refl _ _) f))
   ·intro lQ b W hI hUN hED KQ hKQ
    refine rk_take 5 true 8 rfl rfl (hI.got 5 (of_decide_eq_true rfl) (edge hED 5 (by kernel_rfl)) rfl) ?_
    exact opw_field 62 1 2 rfl _ ((hI.fr.same 1 (by decide)).trans g1) _ (by kernel_rfl) (hKQ.out _ _ (hI.put 6 9 rfl rfl (by rw [hz]; decide) rfl hUN rfl HBB (riB_stb s x l vb w.heap.size (w.heap.size)) (Below.refl _ _) rfl))
   ·intro lQ b W hI hUN hED KQ hKQ
    refine rk_take 5 true 8 rfl rfl (hI.got 5 (of_decide_eq_true rfl) (edge hED 5 (by kernel_rfl)) rfl) ?_
    have f:aT b 9=.pointer (some ⟨w.heap.size,2,none⟩):=hI.got 6 (of_decide_eq_true rfl) (edge hED 6 (by kernel_rfl)) rfl
    have hg:=(hI.vot 26 (of_decide_eq_true rfl) (of_decide_eq_true rfl) rfl)
    have hc0:W.cell? ⟨w.heap.size,2,none⟩=some (.int .i64 x.key.1):=(cell_of_row _ _ 2 _ _ (0,0) hg).trans rfl
    have hc1:W.cell? ⟨w.heap.size,3,none⟩=some (.int .u64 x.key.2.1):=(cell_of_row _ _ 3 _ _ (0,0) hg).trans rfl
    have hc2:W.cell? ⟨w.heap.size,4,none⟩=some (.int .i64 x.key.2.2):=(cell_of_row _ _ 4 _ _ (0,0) hg).trans rfl
    exact opw_load1 41 9 rfl _ f _ (by simp [Instr.loadAt,go_sem,hc0,hc1,hc2]) (hKQ.out _ _ (hI.put 7 10 rfl rfl (by rw [hz]; decide) rfl hUN rfl HBB (riB_stb s x l vb w.heap.size (w.heap.size)) (Below.refl _ _) rfl))
   ·intro lQ b W hI hUN hED KQ hKQ
    refine rk_take 5 true 8 rfl rfl (hI.got 5 (of_decide_eq_true rfl) (edge hED 5 (by kernel_rfl)) rfl) ?_
    have f0:aT b 10=.agg #[.int .i64 x.key.1,.int .u64 x.key.2.1,.int .i64 x.key.2.2]:=hI.got 7 (of_decide_eq_true rfl) (edge hED 7 (by kernel_rfl)) rfl
    refine opw_call 69 #[.tmp 10] _ _ _ rfl Tryz.func69 (by kernel_rfl) rfl #[.agg #[.int .i64 x.key.1,.int .u64 x.key.2.1,.int .i64 x.key.2.2]] (by simp [ev,f0]) ?_
    refine (HPU.out W hI.bel).mono ?_
    rintro r W2 ⟨rfl,hb⟩
    exact ⟨_,rfl,hKQ.out _ _ (hI.put 8 11 rfl rfl (by rw [hz]; decide) rfl hUN rfl HBB (riB_stb s x l vb w.heap.size (w.heap.size)) hb rfl)⟩
   ·intro lQ b W hI hUN hED KQ hKQ
    refine rk_plain rfl ?_
    have fc:aT b 8=.bool true:=hI.got 5 (of_decide_eq_true rfl) (edge hED 5 (by kernel_rfl)) rfl
    have f:=hI.got 8 (of_decide_eq_true rfl) (edge hED 8 (by kernel_rfl)) rfl
    replace f:aT b 11=.bool false:=f
    exact opw_pick_t 8 _ _ rfl fc _ f (hKQ.out _ _ (hI.put 9 12 rfl rfl (by rw [hz]; decide) rfl hUN rfl HBB (riB_stb s x l vb w.heap.size (w.heap.size)) (Below.refl _ _) rfl))
   ·intro lQ b W hI hUN hED KQ hKQ
    refine rk_plain rfl ?_
    have f:=hI.got 9 (of_decide_eq_true rfl) (edge hED 9 (by kernel_rfl)) rfl
    exact opw_move 12 rfl (hKQ.out _ _ (hI.put 10 13 rfl rfl (by rw [hz]; decide) rfl hUN rfl HBB (riB_stb s x l vb w.heap.size (w.heap.size)) (Below.refl _ _) f))
   ·intro lQ b W hI hUN hED KQ hKQ
    exact rk_skip 10 true 13 (.bool false) rfl rfl (hI.got 10 (of_decide_eq_true rfl) (edge hED 10 (by kernel_rfl)) rfl) rfl (hKQ.out _ _ (hI.put 11 14 rfl rfl (by rw [hz]; decide) rfl hUN rfl HBB (riB_stb s x l vb w.heap.size (w.heap.size)) (Below.refl _ _) rfl))
   ·intro lQ b W hI hUN hED KQ hKQ
    exact rk_skip 10 true 13 (.bool false) rfl rfl (hI.got 10 (of_decide_eq_true rfl) (edge hED 10 (by kernel_rfl)) rfl) rfl (hKQ.out _ _ (hI.put 12 15 rfl rfl (by rw [hz]; decide) rfl hUN rfl HBB (riB_stb s x l vb w.heap.size (w.heap.size)) (Below.refl _ _) rfl))
   ·intro lQ b W hI hUN hED KQ hKQ
    exact rk_skip 10 true 13 (.bool false) rfl rfl (hI.got 10 (of_decide_eq_true rfl) (edge hED 10 (by kernel_rfl)) rfl) rfl (hKQ.out _ _ (hI.put 13 16 rfl rfl (by rw [hz]; decide) rfl hUN rfl HBB (riB_stb s x l vb w.heap.size (w.heap.size)) (Below.refl _ _) rfl))
   ·intro lQ b W hI hUN hED KQ hKQ
    exact rk_skip 10 true 13 (.bool false) rfl rfl (hI.got 10 (of_decide_eq_true rfl) (edge hED 10 (by kernel_rfl)) rfl) rfl (hKQ.out _ _ (hI.put 14 17 rfl rfl (by rw [hz]; decide) rfl hUN rfl HBB (riB_stb s x l vb w.heap.size (w.heap.size)) (Below.refl _ _) rfl))
   ·intro lQ b W hI hUN hED KQ hKQ
    refine rk_plain rfl ?_
    have fc:aT b 13=.bool false:=hI.got 10 (of_decide_eq_true rfl) (edge hED 10 (by kernel_rfl)) rfl
    exact opw_pick_f 13 _ _ rfl fc _ rfl (hKQ.out _ _ (hI.put 15 18 rfl rfl (by rw [hz]; decide) rfl hUN rfl HBB (riB_stb s x l vb w.heap.size (w.heap.size)) (Below.refl _ _) rfl))
   ·intro lQ b W hI hUN hED KQ hKQ
    refine rk_plain rfl ?_
    have f:=hI.got 15 (of_decide_eq_true rfl) (edge hED 15 (by kernel_rfl)) rfl
    exact opw_move 18 rfl (hKQ.out _ _ (hI.put 16 19 rfl rfl (by rw [hz]; decide) rfl hUN rfl HBB (riB_stb s x l vb w.heap.size (w.heap.size)) (Below.refl _ _) f))
   ·intro lQ b W hI hUN hED KQ hKQ
    exact rk_skip 16 true 19 (.bool false) rfl rfl (hI.got 16 (of_decide_eq_true rfl) (edge hED 16 (by kernel_rfl)) rfl) rfl (hKQ.out _ _ (hI.put 17 20 rfl rfl (by rw [hz]; decide) rfl hUN rfl HBB (riB_stb s x l vb w.heap.size (w.heap.size)) (Below.refl _ _) rfl))
   ·intro lQ b W hI hUN hED KQ hKQ
    exact rk_skip 16 true 19 (.bool false) rfl rfl (hI.got 16 (of_decide_eq_true rfl) (edge hED 16 (by kernel_rfl)) rfl) rfl (hKQ.out _ _ (hI.put 18 21 rfl rfl (by rw [hz]; decide) rfl hUN rfl HBB (riB_stb s x l vb w.heap.size (w.heap.size)) (Below.refl _ _) rfl))
   ·intro lQ b W hI hUN hED KQ hKQ
    exact rk_skip 16 true 19 (.bool false) rfl rfl (hI.got 16 (of_decide_eq_true rfl) (edge hED 16 (by kernel_rfl)) rfl) rfl (hKQ.out _ _ (hI.put 19 22 rfl rfl (by rw [hz]; decide) rfl hUN rfl HBB (riB_stb s x l vb w.heap.size (w.heap.size)) (Below.refl _ _) rfl))
   ·intro lQ b W hI hUN hED KQ hKQ
    exact rk_skip 16 true 19 (.bool false) rfl rfl (hI.got 16 (of_decide_eq_true rfl) (edge hED 16 (by kernel_rfl)) rfl) rfl (hKQ.out _ _ (hI.put 20 23 rfl rfl (by rw [hz]; decide) rfl hUN rfl HBB (riB_stb s x l vb w.heap.size (w.heap.size)) (Below.refl _ _) rfl))
   ·intro lQ b W hI hUN hED KQ hKQ
    exact rk_skip 16 true 19 (.bool false) rfl rfl (hI.got 16 (of_decide_eq_true rfl) (edge hED 16 (by kernel_rfl)) rfl) rfl (hKQ.out _ _ (hI.put 21 24 rfl rfl (by rw [hz]; decide) rfl hUN rfl HBB (riB_stb s x l vb w.heap.size (w.heap.size)) (Below.refl _ _) rfl))
   ·intro lQ b W hI hUN hED KQ hKQ
    exact rk_skip 16 true 19 (.bool false) rfl rfl (hI.got 16 (of_decide_eq_true rfl) (edge hED 16 (by kernel_rfl)) rfl) rfl (hKQ.out _ _ (hI.put 22 25 rfl rfl (by rw [hz]; decide) rfl hUN rfl HBB (riB_stb s x l vb w.heap.size (w.heap.size)) (Below.refl _ _) rfl))
   ·intro lQ b W hI hUN hED KQ hKQ
    exact rk_skip 16 true 19 (.bool false) rfl rfl (hI.got 16 (of_decide_eq_true rfl) (edge hED 16 (by kernel_rfl)) rfl) rfl (hKQ.out _ _ (hI.put 23 26 rfl rfl (by rw [hz]; decide) rfl hUN rfl HBB (riB_stb s x l vb w.heap.size (w.heap.size)) (Below.refl _ _) rfl))
   ·intro lQ b W hI hUN hED KQ hKQ
    refine rk_plain rfl ?_
    have fc:aT b 19=.bool false:=hI.got 16 (of_decide_eq_true rfl) (edge hED 16 (by kernel_rfl)) rfl
    exact opw_pick_f 19 _ _ rfl fc _ rfl (hKQ.out _ _ (hI.put 24 27 rfl rfl (by rw [hz]; decide) rfl hUN rfl HBB (riB_stb s x l vb w.heap.size (w.heap.size)) (Below.refl _ _) rfl))
   ·intro lQ b W hI hUN hED KQ hKQ
    refine rk_plain rfl ?_
    have f:=hI.got 24 (of_decide_eq_true rfl) (edge hED 24 (by kernel_rfl)) rfl
    exact opw_assign 27 rfl (hKQ.out _ _ (hI.put 25 2 rfl rfl (by rw [hz]; decide) rfl hUN rfl HBB (riB_stb s x l vb w.heap.size (w.heap.size)) (Below.refl _ _) f))
  ·intro b W hf hb F
   have e2:aT b 2=.bool false:=F 25 (of_decide_eq_true rfl) rfl
   rw [hf.eq]
   simp only [puts,Act.put,List.setIfInBounds_toArray,List.set_cons_zero,List.set_cons_succ,e2]
   clear hf F e2
   generalize aT b=AT
   clear b
   go_wp2
   go_ret
   exact says_f HN.out (hB0.trans hb)
 have HPU:Hid (∀ W,Below w.heap.size w0 W→Calls Tryz.prog 69 #[.agg #[.int .i64 x.key.1,.int .u64 x.key.2.1,.int .i64 x.key.2.2]] W fun e w'=>e=.returned (.bool true)∧Below W.heap.size W w'):=fun W hW=>(pubOk_any x.key.1 x.key.2.1 x.key.2.2 W hu).mono (fun e w' q=>by rw [decide_eq_true hp] at q; exact q)
 by_cases h5:s.n3≤500
 case neg =>
  have HN:Hid (¬ rqP x):=fun q=>h5 (by have:=q.2.2.1; omega)
  have HLE:Hid (decide ((s.n3:Int)≤500)=false):=decide_eq_false (by omega)
  obtain ⟨l,hl⟩:∃ l:List Int,l = []:=⟨_,rfl⟩
  obtain ⟨vb,hv⟩:∃ vb:Bool,vb=false:=⟨_,rfl⟩
  clear how ho hp h5 h hz ht hu hzn hln hl hv hm
  go_enter Tryz.func27,Tryz.ntmps27
  go_upto_region 1 with fail
  rw [← HW.out]
  clear HW
  refine wp_region_rk (riC s x l vb w.heap.size (w.heap.size)) [2,3,4,5,6,7,8,9,10,11,12,13,14,15,16,17,18,19,20,21,22,23,24,25,26,27] (w.heap.size) (fun a0=>a0.tmps.size=28∧aT a0 1=.pointer (some ⟨w.heap.size,0,none⟩)) (by kernel_rfl) rfl (by kernel_rfl) rfl ⟨rfl,rfl⟩ (riC_stb s x l vb w.heap.size (w.heap.size)) ?_ ?_ ?_
  ·intro k hk hk2
   match k,hk,hk2 with
   | 26,_,_=>exact L0.out
   | 0,hk,_=>exact absurd hk (by show ¬ (26≤0); omega)
   | 1,hk,_=>exact absurd hk (by show ¬ (26≤1); omega)
   | 2,hk,_=>exact absurd hk (by show ¬ (26≤2); omega)
   | 3,hk,_=>exact absurd hk (by show ¬ (26≤3); omega)
   | 4,hk,_=>exact absurd hk (by show ¬ (26≤4); omega)
   | 5,hk,_=>exact absurd hk (by show ¬ (26≤5); omega)
   | 6,hk,_=>exact absurd hk (by show ¬ (26≤6); omega)
   | 7,hk,_=>exact absurd hk (by show ¬ (26≤7); omega)
   | 8,hk,_=>exact absurd hk (by show ¬ (26≤8); omega)
   | 9,hk,_=>exact absurd hk (by show ¬ (26≤9); omega)
   | 10,hk,_=>exact absurd hk (by show ¬ (26≤10); omega)
   | 11,hk,_=>exact absurd hk (by show ¬ (26≤11); omega)
   | 12,hk,_=>exact absurd hk (by show ¬ (26≤12); omega)
   | 13,hk,_=>exact absurd hk (by show ¬ (26≤13); omega)
   | 14,hk,_=>exact absurd hk (by show ¬ (26≤14); omega)
   | 15,hk,_=>exact absurd hk (by show ¬ (26≤15); omega)
   | 16,hk,_=>exact absurd hk (by show ¬ (26≤16); omega)
   | 17,hk,_=>exact absurd hk (by show ¬ (26≤17); omega)
   | 18,hk,_=>exact absurd hk (by show ¬ (26≤18); omega)
   | 19,hk,_=>exact absurd hk (by show ¬ (26≤19); omega)
   | 20,hk,_=>exact absurd hk (by show ¬ (26≤20); omega)
   | 21,hk,_=>exact absurd hk (by show ¬ (26≤21); omega)
   | 22,hk,_=>exact absurd hk (by show ¬ (26≤22); omega)
   | 23,hk,_=>exact absurd hk (by show ¬ (26≤23); omega)
   | 24,hk,_=>exact absurd hk (by show ¬ (26≤24); omega)
   | 25,hk,_=>exact absurd hk (by show ¬ (26≤25); omega)
   | k+27,_,hk2=>exact absurd hk2 (by show ¬ (k+27<27); omega)
  ·rintro a0 ⟨hz,g1⟩
   refine StepsRK.cons ?_ (StepsRK.cons ?_ (StepsRK.cons ?_ (StepsRK.cons ?_ (StepsRK.cons ?_ (StepsRK.cons ?_ (StepsRK.cons ?_ (StepsRK.cons ?_ (StepsRK.cons ?_ (StepsRK.cons ?_ (StepsRK.cons ?_ (StepsRK.cons ?_ (StepsRK.cons ?_ (StepsRK.cons ?_ (StepsRK.cons ?_ (StepsRK.cons ?_ (StepsRK.cons ?_ (StepsRK.cons ?_ (StepsRK.cons ?_ (StepsRK.cons ?_ (StepsRK.cons ?_ (StepsRK.cons ?_ (StepsRK.cons ?_ (StepsRK.cons ?_ (StepsRK.cons ?_ (StepsRK.cons ?_ (StepsRK.nil))))))))))))))))))))))))))
   ·intro lQ b W hI hUN hED KQ hKQ
    refine rk_plain rfl ?_
    exact opw_field 62 1 0 rfl _ ((hI.fr.same 1 (by decide)).trans g1) _ (by kernel_rfl) (hKQ.out _ _ (hI.put 0 3 rfl rfl (by rw [hz]; decide) rfl hUN rfl HBB (riC_stb s x l vb w.heap.size (w.heap.size)) (Below.refl _ _) rfl))
   ·intro lQ b W hI hUN hED KQ hKQ
    refine rk_plain rfl ?_
    have f:aT b 3=.pointer (some ⟨w.heap.size,0,none⟩):=hI.got 0 (of_decide_eq_true rfl) (edge hED 0 (by kernel_rfl)) rfl
    have hg:=(hI.vot 26 (of_decide_eq_true rfl) (of_decide_eq_true rfl) rfl)
    have hc0:W.cell? ⟨w.heap.size,0,none⟩=some (.slice s.a1 s.n1 s.c1):=(cell_of_row _ _ 0 _ _ (0,0) hg).trans rfl
    exact opw_load1 40 3 rfl _ f _ (by simp [Instr.loadAt,go_sem,hc0]) (hKQ.out _ _ (hI.put 1 4 rfl rfl (by rw [hz]; decide) rfl hUN rfl HBB (riC_stb s x l vb w.heap.size (w.heap.size)) (Below.refl _ _) rfl))
   ·intro lQ b W hI hUN hED KQ hKQ
    refine rk_plain rfl ?_
    exact opw_field 62 1 1 rfl _ ((hI.fr.same 1 (by decide)).trans g1) _ (by kernel_rfl) (hKQ.out _ _ (hI.put 2 5 rfl rfl (by rw [hz]; decide) rfl hUN rfl HBB (riC_stb s x l vb w.heap.size (w.heap.size)) (Below.refl _ _) rfl))
   ·intro lQ b W hI hUN hED KQ hKQ
    refine rk_plain rfl ?_
    have f:=hI.got 2 (of_decide_eq_true rfl) (edge hED 2 (by kernel_rfl)) rfl
    have hg:=(hI.vot 26 (of_decide_eq_true rfl) (of_decide_eq_true rfl) rfl)
    have hc:W.cell? ⟨w.heap.size,1,none⟩=some (.slice s.a2 s.n2 s.c2):=(cell_of_row _ _ 1 _ _ (0,0) hg).trans rfl
    exact opw_load1 42 5 rfl _ f _ (by simp [Instr.loadAt,go_sem,hc]) (hKQ.out _ _ (hI.put 3 6 rfl rfl (by rw [hz]; decide) rfl hUN rfl HBB (riC_stb s x l vb w.heap.size (w.heap.size)) (Below.refl _ _) rfl))
   ·intro lQ b W hI hUN hED KQ hKQ
    refine rk_plain rfl ?_
    have f0:aT b 4=.agg #[.slice s.a1 s.n1 s.c1]:=hI.got 1 (of_decide_eq_true rfl) (edge hED 1 (by kernel_rfl)) rfl
    have f1:aT b 6=.slice s.a2 s.n2 s.c2:=hI.got 3 (of_decide_eq_true rfl) (edge hED 3 (by kernel_rfl)) rfl
    refine opw_call 68 #[.tmp 4,.tmp 6] _ _ _ rfl Tryz.func68 (by kernel_rfl) rfl #[.agg #[.slice s.a1 s.n1 s.c1],.slice s.a2 s.n2 s.c2] (by simp [ev,f0,f1]) ?_
    refine (HOW.out W hI.bel).mono ?_
    rintro r W2 ⟨rfl,hb⟩
    exact ⟨_,rfl,hKQ.out _ _ (hI.put 4 7 rfl rfl (by rw [hz]; decide) rfl hUN rfl HBB (riC_stb s x l vb w.heap.size (w.heap.size)) hb rfl)⟩
   ·intro lQ b W hI hUN hED KQ hKQ
    refine rk_plain rfl ?_
    have f:=hI.got 4 (of_decide_eq_true rfl) (edge hED 4 (by kernel_rfl)) rfl
    exact opw_move 7 rfl (hKQ.out _ _ (hI.put 5 8 rfl rfl (by rw [hz]; decide) rfl hUN rfl HBB (riC_stb s x l vb w.heap.size (w.heap.size)) (Below.refl _ _) f))
   ·intro lQ b W hI hUN hED KQ hKQ
    refine rk_take 5 true 8 rfl rfl (hI.got 5 (of_decide_eq_true rfl) (edge hED 5 (by kernel_rfl)) rfl) ?_
    exact opw_field 62 1 2 rfl _ ((hI.fr.same 1 (by decide)).trans g1) _ (by kernel_rfl) (hKQ.out _ _ (hI.put 6 9 rfl rfl (by rw [hz]; decide) rfl hUN rfl HBB (riC_stb s x l vb w.heap.size (w.heap.size)) (Below.refl _ _) rfl))
   ·intro lQ b W hI hUN hED KQ hKQ
    refine rk_take 5 true 8 rfl rfl (hI.got 5 (of_decide_eq_true rfl) (edge hED 5 (by kernel_rfl)) rfl) ?_
    have f:aT b 9=.pointer (some ⟨w.heap.size,2,none⟩):=hI.got 6 (of_decide_eq_true rfl) (edge hED 6 (by kernel_rfl)) rfl
    have hg:=(hI.vot 26 (of_decide_eq_true rfl) (of_decide_eq_true rfl) rfl)
    have hc0:W.cell? ⟨w.heap.size,2,none⟩=some (.int .i64 x.key.1):=(cell_of_row _ _ 2 _ _ (0,0) hg).trans rfl
    have hc1:W.cell? ⟨w.heap.size,3,none⟩=some (.int .u64 x.key.2.1):=(cell_of_row _ _ 3 _ _ (0,0) hg).trans rfl
    have hc2:W.cell? ⟨w.heap.size,4,none⟩=some (.int .i64 x.key.2.2):=(cell_of_row _ _ 4 _ _ (0,0) hg).trans rfl
    exact opw_load1 41 9 rfl _ f _ (by simp [Instr.loadAt,go_sem,hc0,hc1,hc2]) (hKQ.out _ _ (hI.put 7 10 rfl rfl (by rw [hz]; decide) rfl hUN rfl HBB (riC_stb s x l vb w.heap.size (w.heap.size)) (Below.refl _ _) rfl))
   ·intro lQ b W hI hUN hED KQ hKQ
    refine rk_take 5 true 8 rfl rfl (hI.got 5 (of_decide_eq_true rfl) (edge hED 5 (by kernel_rfl)) rfl) ?_
    have f0:aT b 10=.agg #[.int .i64 x.key.1,.int .u64 x.key.2.1,.int .i64 x.key.2.2]:=hI.got 7 (of_decide_eq_true rfl) (edge hED 7 (by kernel_rfl)) rfl
    refine opw_call 69 #[.tmp 10] _ _ _ rfl Tryz.func69 (by kernel_rfl) rfl #[.agg #[.int .i64 x.key.1,.int .u64 x.key.2.1,.int .i64 x.key.2.2]] (by simp [ev,f0]) ?_
    refine (HPU.out W hI.bel).mono ?_
    rintro r W2 ⟨rfl,hb⟩
    exact ⟨_,rfl,hKQ.out _ _ (hI.put 8 11 rfl rfl (by rw [hz]; decide) rfl hUN rfl HBB (riC_stb s x l vb w.heap.size (w.heap.size)) hb rfl)⟩
   ·intro lQ b W hI hUN hED KQ hKQ
    refine rk_plain rfl ?_
    have fc:aT b 8=.bool true:=hI.got 5 (of_decide_eq_true rfl) (edge hED 5 (by kernel_rfl)) rfl
    have f:=hI.got 8 (of_decide_eq_true rfl) (edge hED 8 (by kernel_rfl)) rfl
    replace f:aT b 11=.bool true:=f
    exact opw_pick_t 8 _ _ rfl fc _ f (hKQ.out _ _ (hI.put 9 12 rfl rfl (by rw [hz]; decide) rfl hUN rfl HBB (riC_stb s x l vb w.heap.size (w.heap.size)) (Below.refl _ _) rfl))
   ·intro lQ b W hI hUN hED KQ hKQ
    refine rk_plain rfl ?_
    have f:=hI.got 9 (of_decide_eq_true rfl) (edge hED 9 (by kernel_rfl)) rfl
    exact opw_move 12 rfl (hKQ.out _ _ (hI.put 10 13 rfl rfl (by rw [hz]; decide) rfl hUN rfl HBB (riC_stb s x l vb w.heap.size (w.heap.size)) (Below.refl _ _) f))
   ·intro lQ b W hI hUN hED KQ hKQ
    refine rk_take 10 true 13 rfl rfl (hI.got 10 (of_decide_eq_true rfl) (edge hED 10 (by kernel_rfl)) rfl) ?_
    exact opw_field 62 1 3 rfl _ ((hI.fr.same 1 (by decide)).trans g1) _ (by kernel_rfl) (hKQ.out _ _ (hI.put 11 14 rfl rfl (by rw [hz]; decide) rfl hUN rfl HBB (riC_stb s x l vb w.heap.size (w.heap.size)) (Below.refl _ _) rfl))
   ·intro lQ b W hI hUN hED KQ hKQ
    refine rk_take 10 true 13 rfl rfl (hI.got 10 (of_decide_eq_true rfl) (edge hED 10 (by kernel_rfl)) rfl) ?_
    have f:=hI.got 11 (of_decide_eq_true rfl) (edge hED 11 (by kernel_rfl)) rfl
    have hg:=(hI.vot 26 (of_decide_eq_true rfl) (of_decide_eq_true rfl) rfl)
    have hc:W.cell? ⟨w.heap.size,5,none⟩=some (.slice s.a3 s.n3 s.c3):=(cell_of_row _ _ 5 _ _ (0,0) hg).trans rfl
    exact opw_load1 32 14 rfl _ f _ (by simp [Instr.loadAt,go_sem,hc]) (hKQ.out _ _ (hI.put 12 15 rfl rfl (by rw [hz]; decide) rfl hUN rfl HBB (riC_stb s x l vb w.heap.size (w.heap.size)) (Below.refl _ _) rfl))
   ·intro lQ b W hI hUN hED KQ hKQ
    refine rk_take 10 true 13 rfl rfl (hI.got 10 (of_decide_eq_true rfl) (edge hED 10 (by kernel_rfl)) rfl) ?_
    have f:aT b 15=.slice s.a3 s.n3 s.c3:=hI.got 12 (of_decide_eq_true rfl) (edge hED 12 (by kernel_rfl)) rfl
    exact opw_lenQ 15 _ _ rfl Tryz.underlying32 _ _ _ f (hKQ.out _ _ (hI.put 13 16 rfl rfl (by rw [hz]; decide) rfl hUN rfl HBB (riC_stb s x l vb w.heap.size (w.heap.size)) (Below.refl _ _) rfl))
   ·intro lQ b W hI hUN hED KQ hKQ
    refine rk_take 10 true 13 rfl rfl (hI.got 10 (of_decide_eq_true rfl) (edge hED 10 (by kernel_rfl)) rfl) ?_
    have f:aT b 16=.int .i64 s.n3:=hI.got 13 (of_decide_eq_true rfl) (edge hED 13 (by kernel_rfl)) rfl
    refine opw_leqQ _ _ 16 500 rfl _ f ?_
    rw [HLE.out]
    exact hKQ.out _ _ (hI.put 14 17 rfl rfl (by rw [hz]; decide) rfl hUN rfl HBB (riC_stb s x l vb w.heap.size (w.heap.size)) (Below.refl _ _) rfl)
   ·intro lQ b W hI hUN hED KQ hKQ
    refine rk_plain rfl ?_
    have fc:aT b 13=.bool true:=hI.got 10 (of_decide_eq_true rfl) (edge hED 10 (by kernel_rfl)) rfl
    have f:=hI.got 14 (of_decide_eq_true rfl) (edge hED 14 (by kernel_rfl)) rfl
    replace f:aT b 17=.bool false:=f
    exact opw_pick_t 13 _ _ rfl fc _ f (hKQ.out _ _ (hI.put 15 18 rfl rfl (by rw [hz]; decide) rfl hUN rfl HBB (riC_stb s x l vb w.heap.size (w.heap.size)) (Below.refl _ _) rfl))
   ·intro lQ b W hI hUN hED KQ hKQ
    refine rk_plain rfl ?_
    have f:=hI.got 15 (of_decide_eq_true rfl) (edge hED 15 (by kernel_rfl)) rfl
    exact opw_move 18 rfl (hKQ.out _ _ (hI.put 16 19 rfl rfl (by rw [hz]; decide) rfl hUN rfl HBB (riC_stb s x l vb w.heap.size (w.heap.size)) (Below.refl _ _) f))
   ·intro lQ b W hI hUN hED KQ hKQ
    exact rk_skip 16 true 19 (.bool false) rfl rfl (hI.got 16 (of_decide_eq_true rfl) (edge hED 16 (by kernel_rfl)) rfl) rfl (hKQ.out _ _ (hI.put 17 20 rfl rfl (by rw [hz]; decide) rfl hUN rfl HBB (riC_stb s x l vb w.heap.size (w.heap.size)) (Below.refl _ _) rfl))
   ·intro lQ b W hI hUN hED KQ hKQ
    exact rk_skip 16 true 19 (.bool false) rfl rfl (hI.got 16 (of_decide_eq_true rfl) (edge hED 16 (by kernel_rfl)) rfl) rfl (hKQ.out _ _ (hI.put 18 21 rfl rfl (by rw [hz]; decide) rfl hUN rfl HBB (riC_stb s x l vb w.heap.size (w.heap.size)) (Below.refl _ _) rfl))
   ·intro lQ b W hI hUN hED KQ hKQ
    exact rk_skip 16 true 19 (.bool false) rfl rfl (hI.got 16 (of_decide_eq_true rfl) (edge hED 16 (by kernel_rfl)) rfl) rfl (hKQ.out _ _ (hI.put 19 22 rfl rfl (by rw [hz]; decide) rfl hUN rfl HBB (riC_stb s x l vb w.heap.size (w.heap.size)) (Below.refl _ _) rfl))
   ·intro lQ b W hI hUN hED KQ hKQ
    exact rk_skip 16 true 19 (.bool false) rfl rfl (hI.got 16 (of_decide_eq_true rfl) (edge hED 16 (by kernel_rfl)) rfl) rfl (hKQ.out _ _ (hI.put 20 23 rfl rfl (by rw [hz]; decide) rfl hUN rfl HBB (riC_stb s x l vb w.heap.size (w.heap.size)) (Below.refl _ _) rfl))
   ·intro lQ b W hI hUN hED KQ hKQ
    exact rk_skip 16 true 19 (.bool false) rfl rfl (hI.got 16 (of_decide_eq_true rfl) (edge hED 16 (by kernel_rfl)) rfl) rfl (hKQ.out _ _ (hI.put 21 24 rfl rfl (by rw [hz]; decide) rfl hUN rfl HBB (riC_stb s x l vb w.heap.size (w.heap.size)) (Below.refl _ _) rfl))
   ·intro lQ b W hI hUN hED KQ hKQ
    exact rk_skip 16 true 19 (.bool false) rfl rfl (hI.got 16 (of_decide_eq_true rfl) (edge hED 16 (by kernel_rfl)) rfl) rfl (hKQ.out _ _ (hI.put 22 25 rfl rfl (by rw [hz]; decide) rfl hUN rfl HBB (riC_stb s x l vb w.heap.size (w.heap.size)) (Below.refl _ _) rfl))
   ·intro lQ b W hI hUN hED KQ hKQ
    exact rk_skip 16 true 19 (.bool false) rfl rfl (hI.got 16 (of_decide_eq_true rfl) (edge hED 16 (by kernel_rfl)) rfl) rfl (hKQ.out _ _ (hI.put 23 26 rfl rfl (by rw [hz]; decide) rfl hUN rfl HBB (riC_stb s x l vb w.heap.size (w.heap.size)) (Below.refl _ _) rfl))
   ·intro lQ b W hI hUN hED KQ hKQ
    refine rk_plain rfl ?_
    have fc:aT b 19=.bool false:=hI.got 16 (of_decide_eq_true rfl) (edge hED 16 (by kernel_rfl)) rfl
    exact opw_pick_f 19 _ _ rfl fc _ rfl (hKQ.out _ _ (hI.put 24 27 rfl rfl (by rw [hz]; decide) rfl hUN rfl HBB (riC_stb s x l vb w.heap.size (w.heap.size)) (Below.refl _ _) rfl))
   ·intro lQ b W hI hUN hED KQ hKQ
    refine rk_plain rfl ?_
    have f:=hI.got 24 (of_decide_eq_true rfl) (edge hED 24 (by kernel_rfl)) rfl
    exact opw_assign 27 rfl (hKQ.out _ _ (hI.put 25 2 rfl rfl (by rw [hz]; decide) rfl hUN rfl HBB (riC_stb s x l vb w.heap.size (w.heap.size)) (Below.refl _ _) f))
  ·intro b W hf hb F
   have e2:aT b 2=.bool false:=F 25 (of_decide_eq_true rfl) rfl
   rw [hf.eq]
   simp only [puts,Act.put,List.setIfInBounds_toArray,List.set_cons_zero,List.set_cons_succ,e2]
   clear hf F e2
   generalize aT b=AT
   clear b
   go_wp2
   go_ret
   exact says_f HN.out (hB0.trans hb)
 have HLE:Hid (decide ((s.n3:Int)≤500)=true):=decide_eq_true (by omega)
 have hrb:RqB x:=⟨ho.1,gens_b ho.2.2,hp⟩
 have hen:=rqBody_enc hrb
 obtain ⟨l,hl⟩:∃ l,l=rqBody x:=⟨_,rfl⟩
 rw [← hl] at hen
 obtain ⟨vb,hv⟩:∃ vb,vb=decide (anyP x.key.1 x.key.2.1 x.key.2.2 l x.sig):=⟨_,rfl⟩
 have HBD:Hid (∀ W,Below w.heap.size w0 W→Calls Tryz.prog 70 #[.agg #[.slice s.a1 s.n1 s.c1,.slice s.a2 s.n2 s.c2,.int .i64 x.key.1,.int .u64 x.key.2.1,.int .i64 x.key.2.2,.slice s.a3 s.n3 s.c3]] W fun e w'=>∃ a' c',e=.returned (.slice a' l.length c')∧Own W.heap.size w' a' l.length c' l∧Below W.heap.size W w'):=fun W hW=>reqBody_any s x W (h.kept (hB0.trans hW)) hu hrb l hen.1
 have HVF:Hid (∀ W a4 c4,Below w.heap.size w0 W→Own w.heap.size W a4 l.length c4 l→Calls Tryz.prog 64 #[.agg #[.int .i64 x.key.1,.int .u64 x.key.2.1,.int .i64 x.key.2.2],.slice a4 l.length c4,.slice s.a3 s.n3 s.c3] W fun e w'=>e=.returned (.bool vb)∧Below W.heap.size W w'):=fun W a4 c4 hW ho4=>by
  rw [hv]
  exact implVerifyAny_any x.key.1 x.key.2.1 x.key.2.2 a4 l.length c4 l s.a3 s.n3 s.c3 x.sig W hu ho4.toRow (by omega) ho4.nil (h.r3.kept (hB0.trans hW)) (by omega) (by have:=ht.2.2; omega)
 have HVB:Hid (vb=true↔rqP x):=by
  show vb=true↔rqP x
  rw [hv,decide_eq_true_eq,hl]
  exact ⟨fun q=>⟨ho,hp,by omega,q⟩,fun q=>q.2.2.2⟩
 clear how ho hp h5 h hz ht hu hzn hln hl hv hrb hen hm
 go_enter Tryz.func27,Tryz.ntmps27
 go_upto_region 1 with fail
 rw [← HW.out]
 clear HW
 refine wp_region_rk (riD s x l vb w.heap.size (w.heap.size)) [2,3,4,5,6,7,8,9,10,11,12,13,14,15,16,17,18,19,20,21,22,23,24,25,26,27] (w.heap.size) (fun a0=>a0.tmps.size=28∧aT a0 1=.pointer (some ⟨w.heap.size,0,none⟩)) (by kernel_rfl) rfl (by kernel_rfl) rfl ⟨rfl,rfl⟩ (riD_stb s x l vb w.heap.size (w.heap.size)) ?_ ?_ ?_
 ·intro k hk hk2
  match k,hk,hk2 with
  | 26,_,_=>exact L0.out
  | 0,hk,_=>exact absurd hk (by show ¬ (26≤0); omega)
  | 1,hk,_=>exact absurd hk (by show ¬ (26≤1); omega)
  | 2,hk,_=>exact absurd hk (by show ¬ (26≤2); omega)
  | 3,hk,_=>exact absurd hk (by show ¬ (26≤3); omega)
  | 4,hk,_=>exact absurd hk (by show ¬ (26≤4); omega)
  | 5,hk,_=>exact absurd hk (by show ¬ (26≤5); omega)
  | 6,hk,_=>exact absurd hk (by show ¬ (26≤6); omega)
  | 7,hk,_=>exact absurd hk (by show ¬ (26≤7); omega)
  | 8,hk,_=>exact absurd hk (by show ¬ (26≤8); omega)
  | 9,hk,_=>exact absurd hk (by show ¬ (26≤9); omega)
  | 10,hk,_=>exact absurd hk (by show ¬ (26≤10); omega)
  | 11,hk,_=>exact absurd hk (by show ¬ (26≤11); omega)
  | 12,hk,_=>exact absurd hk (by show ¬ (26≤12); omega)
  | 13,hk,_=>exact absurd hk (by show ¬ (26≤13); omega)
  | 14,hk,_=>exact absurd hk (by show ¬ (26≤14); omega)
  | 15,hk,_=>exact absurd hk (by show ¬ (26≤15); omega)
  | 16,hk,_=>exact absurd hk (by show ¬ (26≤16); omega)
  | 17,hk,_=>exact absurd hk (by show ¬ (26≤17); omega)
  | 18,hk,_=>exact absurd hk (by show ¬ (26≤18); omega)
  | 19,hk,_=>exact absurd hk (by show ¬ (26≤19); omega)
  | 20,hk,_=>exact absurd hk (by show ¬ (26≤20); omega)
  | 21,hk,_=>exact absurd hk (by show ¬ (26≤21); omega)
  | 22,hk,_=>exact absurd hk (by show ¬ (26≤22); omega)
  | 23,hk,_=>exact absurd hk (by show ¬ (26≤23); omega)
  | 24,hk,_=>exact absurd hk (by show ¬ (26≤24); omega)
  | 25,hk,_=>exact absurd hk (by show ¬ (26≤25); omega)
  | k+27,_,hk2=>exact absurd hk2 (by show ¬ (k+27<27); omega)
 ·rintro a0 ⟨hz,g1⟩
  refine StepsRK.cons ?_ (StepsRK.cons ?_ (StepsRK.cons ?_ (StepsRK.cons ?_ (StepsRK.cons ?_ (StepsRK.cons ?_ (StepsRK.cons ?_ (StepsRK.cons ?_ (StepsRK.cons ?_ (StepsRK.cons ?_ (StepsRK.cons ?_ (StepsRK.cons ?_ (StepsRK.cons ?_ (StepsRK.cons ?_ (StepsRK.cons ?_ (StepsRK.cons ?_ (StepsRK.cons ?_ (StepsRK.cons ?_ (StepsRK.cons ?_ (StepsRK.cons ?_ (StepsRK.cons ?_ (StepsRK.cons ?_ (StepsRK.cons ?_ (StepsRK.cons ?_ (StepsRK.cons ?_ (StepsRK.cons ?_ (StepsRK.nil))))))))))))))))))))))))))
  ·intro lQ b W hI hUN hED KQ hKQ
   refine rk_plain rfl ?_
   exact opw_field 62 1 0 rfl _ ((hI.fr.same 1 (by decide)).trans g1) _ (by kernel_rfl) (hKQ.out _ _ (hI.put 0 3 rfl rfl (by rw [hz]; decide) rfl hUN rfl HBB (riD_stb s x l vb w.heap.size (w.heap.size)) (Below.refl _ _) rfl))
  ·intro lQ b W hI hUN hED KQ hKQ
   refine rk_plain rfl ?_
   have f:aT b 3=.pointer (some ⟨w.heap.size,0,none⟩):=hI.got 0 (of_decide_eq_true rfl) (edge hED 0 (by kernel_rfl)) rfl
   have hg:=(hI.vot 26 (of_decide_eq_true rfl) (of_decide_eq_true rfl) rfl)
   have hc0:W.cell? ⟨w.heap.size,0,none⟩=some (.slice s.a1 s.n1 s.c1):=(cell_of_row _ _ 0 _ _ (0,0) hg).trans rfl
   exact opw_load1 40 3 rfl _ f _ (by simp [Instr.loadAt,go_sem,hc0]) (hKQ.out _ _ (hI.put 1 4 rfl rfl (by rw [hz]; decide) rfl hUN rfl HBB (riD_stb s x l vb w.heap.size (w.heap.size)) (Below.refl _ _) rfl))
  ·intro lQ b W hI hUN hED KQ hKQ
   refine rk_plain rfl ?_
   exact opw_field 62 1 1 rfl _ ((hI.fr.same 1 (by decide)).trans g1) _ (by kernel_rfl) (hKQ.out _ _ (hI.put 2 5 rfl rfl (by rw [hz]; decide) rfl hUN rfl HBB (riD_stb s x l vb w.heap.size (w.heap.size)) (Below.refl _ _) rfl))
  ·intro lQ b W hI hUN hED KQ hKQ
   refine rk_plain rfl ?_
   have f:=hI.got 2 (of_decide_eq_true rfl) (edge hED 2 (by kernel_rfl)) rfl
   have hg:=(hI.vot 26 (of_decide_eq_true rfl) (of_decide_eq_true rfl) rfl)
   have hc:W.cell? ⟨w.heap.size,1,none⟩=some (.slice s.a2 s.n2 s.c2):=(cell_of_row _ _ 1 _ _ (0,0) hg).trans rfl
   exact opw_load1 42 5 rfl _ f _ (by simp [Instr.loadAt,go_sem,hc]) (hKQ.out _ _ (hI.put 3 6 rfl rfl (by rw [hz]; decide) rfl hUN rfl HBB (riD_stb s x l vb w.heap.size (w.heap.size)) (Below.refl _ _) rfl))
  ·intro lQ b W hI hUN hED KQ hKQ
   refine rk_plain rfl ?_
   have f0:aT b 4=.agg #[.slice s.a1 s.n1 s.c1]:=hI.got 1 (of_decide_eq_true rfl) (edge hED 1 (by kernel_rfl)) rfl
   have f1:aT b 6=.slice s.a2 s.n2 s.c2:=hI.got 3 (of_decide_eq_true rfl) (edge hED 3 (by kernel_rfl)) rfl
   refine opw_call 68 #[.tmp 4,.tmp 6] _ _ _ rfl Tryz.func68 (by kernel_rfl) rfl #[.agg #[.slice s.a1 s.n1 s.c1],.slice s.a2 s.n2 s.c2] (by simp [ev,f0,f1]) ?_
   refine (HOW.out W hI.bel).mono ?_
   rintro r W2 ⟨rfl,hb⟩
   exact ⟨_,rfl,hKQ.out _ _ (hI.put 4 7 rfl rfl (by rw [hz]; decide) rfl hUN rfl HBB (riD_stb s x l vb w.heap.size (w.heap.size)) hb rfl)⟩
  ·intro lQ b W hI hUN hED KQ hKQ
   refine rk_plain rfl ?_
   have f:=hI.got 4 (of_decide_eq_true rfl) (edge hED 4 (by kernel_rfl)) rfl
   exact opw_move 7 rfl (hKQ.out _ _ (hI.put 5 8 rfl rfl (by rw [hz]; decide) rfl hUN rfl HBB (riD_stb s x l vb w.heap.size (w.heap.size)) (Below.refl _ _) f))
  ·intro lQ b W hI hUN hED KQ hKQ
   refine rk_take 5 true 8 rfl rfl (hI.got 5 (of_decide_eq_true rfl) (edge hED 5 (by kernel_rfl)) rfl) ?_
   exact opw_field 62 1 2 rfl _ ((hI.fr.same 1 (by decide)).trans g1) _ (by kernel_rfl) (hKQ.out _ _ (hI.put 6 9 rfl rfl (by rw [hz]; decide) rfl hUN rfl HBB (riD_stb s x l vb w.heap.size (w.heap.size)) (Below.refl _ _) rfl))
  ·intro lQ b W hI hUN hED KQ hKQ
   refine rk_take 5 true 8 rfl rfl (hI.got 5 (of_decide_eq_true rfl) (edge hED 5 (by kernel_rfl)) rfl) ?_
   have f:aT b 9=.pointer (some ⟨w.heap.size,2,none⟩):=hI.got 6 (of_decide_eq_true rfl) (edge hED 6 (by kernel_rfl)) rfl
   have hg:=(hI.vot 26 (of_decide_eq_true rfl) (of_decide_eq_true rfl) rfl)
   have hc0:W.cell? ⟨w.heap.size,2,none⟩=some (.int .i64 x.key.1):=(cell_of_row _ _ 2 _ _ (0,0) hg).trans rfl
   have hc1:W.cell? ⟨w.heap.size,3,none⟩=some (.int .u64 x.key.2.1):=(cell_of_row _ _ 3 _ _ (0,0) hg).trans rfl
   have hc2:W.cell? ⟨w.heap.size,4,none⟩=some (.int .i64 x.key.2.2):=(cell_of_row _ _ 4 _ _ (0,0) hg).trans rfl
   exact opw_load1 41 9 rfl _ f _ (by simp [Instr.loadAt,go_sem,hc0,hc1,hc2]) (hKQ.out _ _ (hI.put 7 10 rfl rfl (by rw [hz]; decide) rfl hUN rfl HBB (riD_stb s x l vb w.heap.size (w.heap.size)) (Below.refl _ _) rfl))
  ·intro lQ b W hI hUN hED KQ hKQ
   refine rk_take 5 true 8 rfl rfl (hI.got 5 (of_decide_eq_true rfl) (edge hED 5 (by kernel_rfl)) rfl) ?_
   have f0:aT b 10=.agg #[.int .i64 x.key.1,.int .u64 x.key.2.1,.int .i64 x.key.2.2]:=hI.got 7 (of_decide_eq_true rfl) (edge hED 7 (by kernel_rfl)) rfl
   refine opw_call 69 #[.tmp 10] _ _ _ rfl Tryz.func69 (by kernel_rfl) rfl #[.agg #[.int .i64 x.key.1,.int .u64 x.key.2.1,.int .i64 x.key.2.2]] (by simp [ev,f0]) ?_
   refine (HPU.out W hI.bel).mono ?_
   rintro r W2 ⟨rfl,hb⟩
   exact ⟨_,rfl,hKQ.out _ _ (hI.put 8 11 rfl rfl (by rw [hz]; decide) rfl hUN rfl HBB (riD_stb s x l vb w.heap.size (w.heap.size)) hb rfl)⟩
  ·intro lQ b W hI hUN hED KQ hKQ
   refine rk_plain rfl ?_
   have fc:aT b 8=.bool true:=hI.got 5 (of_decide_eq_true rfl) (edge hED 5 (by kernel_rfl)) rfl
   have f:=hI.got 8 (of_decide_eq_true rfl) (edge hED 8 (by kernel_rfl)) rfl
   replace f:aT b 11=.bool true:=f
   exact opw_pick_t 8 _ _ rfl fc _ f (hKQ.out _ _ (hI.put 9 12 rfl rfl (by rw [hz]; decide) rfl hUN rfl HBB (riD_stb s x l vb w.heap.size (w.heap.size)) (Below.refl _ _) rfl))
  ·intro lQ b W hI hUN hED KQ hKQ
   refine rk_plain rfl ?_
   have f:=hI.got 9 (of_decide_eq_true rfl) (edge hED 9 (by kernel_rfl)) rfl
   exact opw_move 12 rfl (hKQ.out _ _ (hI.put 10 13 rfl rfl (by rw [hz]; decide) rfl hUN rfl HBB (riD_stb s x l vb w.heap.size (w.heap.size)) (Below.refl _ _) f))
  ·intro lQ b W hI hUN hED KQ hKQ
   refine rk_take 10 true 13 rfl rfl (hI.got 10 (of_decide_eq_true rfl) (edge hED 10 (by kernel_rfl)) rfl) ?_
   exact opw_field 62 1 3 rfl _ ((hI.fr.same 1 (by decide)).trans g1) _ (by kernel_rfl) (hKQ.out _ _ (hI.put 11 14 rfl rfl (by rw [hz]; decide) rfl hUN rfl HBB (riD_stb s x l vb w.heap.size (w.heap.size)) (Below.refl _ _) rfl))
  ·intro lQ b W hI hUN hED KQ hKQ
   refine rk_take 10 true 13 rfl rfl (hI.got 10 (of_decide_eq_true rfl) (edge hED 10 (by kernel_rfl)) rfl) ?_
   have f:=hI.got 11 (of_decide_eq_true rfl) (edge hED 11 (by kernel_rfl)) rfl
   have hg:=(hI.vot 26 (of_decide_eq_true rfl) (of_decide_eq_true rfl) rfl)
   have hc:W.cell? ⟨w.heap.size,5,none⟩=some (.slice s.a3 s.n3 s.c3):=(cell_of_row _ _ 5 _ _ (0,0) hg).trans rfl
   exact opw_load1 32 14 rfl _ f _ (by simp [Instr.loadAt,go_sem,hc]) (hKQ.out _ _ (hI.put 12 15 rfl rfl (by rw [hz]; decide) rfl hUN rfl HBB (riD_stb s x l vb w.heap.size (w.heap.size)) (Below.refl _ _) rfl))
  ·intro lQ b W hI hUN hED KQ hKQ
   refine rk_take 10 true 13 rfl rfl (hI.got 10 (of_decide_eq_true rfl) (edge hED 10 (by kernel_rfl)) rfl) ?_
   have f:aT b 15=.slice s.a3 s.n3 s.c3:=hI.got 12 (of_decide_eq_true rfl) (edge hED 12 (by kernel_rfl)) rfl
   exact opw_lenQ 15 _ _ rfl Tryz.underlying32 _ _ _ f (hKQ.out _ _ (hI.put 13 16 rfl rfl (by rw [hz]; decide) rfl hUN rfl HBB (riD_stb s x l vb w.heap.size (w.heap.size)) (Below.refl _ _) rfl))
  ·intro lQ b W hI hUN hED KQ hKQ
   refine rk_take 10 true 13 rfl rfl (hI.got 10 (of_decide_eq_true rfl) (edge hED 10 (by kernel_rfl)) rfl) ?_
   have f:aT b 16=.int .i64 s.n3:=hI.got 13 (of_decide_eq_true rfl) (edge hED 13 (by kernel_rfl)) rfl
   refine opw_leqQ _ _ 16 500 rfl _ f ?_
   rw [HLE.out]
   exact hKQ.out _ _ (hI.put 14 17 rfl rfl (by rw [hz]; decide) rfl hUN rfl HBB (riD_stb s x l vb w.heap.size (w.heap.size)) (Below.refl _ _) rfl)
  ·intro lQ b W hI hUN hED KQ hKQ
   refine rk_plain rfl ?_
   have fc:aT b 13=.bool true:=hI.got 10 (of_decide_eq_true rfl) (edge hED 10 (by kernel_rfl)) rfl
   have f:=hI.got 14 (of_decide_eq_true rfl) (edge hED 14 (by kernel_rfl)) rfl
   replace f:aT b 17=.bool true:=f
   exact opw_pick_t 13 _ _ rfl fc _ f (hKQ.out _ _ (hI.put 15 18 rfl rfl (by rw [hz]; decide) rfl hUN rfl HBB (riD_stb s x l vb w.heap.size (w.heap.size)) (Below.refl _ _) rfl))
  ·intro lQ b W hI hUN hED KQ hKQ
   refine rk_plain rfl ?_
   have f:=hI.got 15 (of_decide_eq_true rfl) (edge hED 15 (by kernel_rfl)) rfl
   exact opw_move 18 rfl (hKQ.out _ _ (hI.put 16 19 rfl rfl (by rw [hz]; decide) rfl hUN rfl HBB (riD_stb s x l vb w.heap.size (w.heap.size)) (Below.refl _ _) f))
  ·intro lQ b W hI hUN hED KQ hKQ
   refine rk_take 16 true 19 rfl rfl (hI.got 16 (of_decide_eq_true rfl) (edge hED 16 (by kernel_rfl)) rfl) ?_
   exact opw_field 62 1 2 rfl _ ((hI.fr.same 1 (by decide)).trans g1) _ (by kernel_rfl) (hKQ.out _ _ (hI.put 17 20 rfl rfl (by rw [hz]; decide) rfl hUN rfl HBB (riD_stb s x l vb w.heap.size (w.heap.size)) (Below.refl _ _) rfl))
  ·intro lQ b W hI hUN hED KQ hKQ
   refine rk_take 16 true 19 rfl rfl (hI.got 16 (of_decide_eq_true rfl) (edge hED 16 (by kernel_rfl)) rfl) ?_
   have f:aT b 20=.pointer (some ⟨w.heap.size,2,none⟩):=hI.got 17 (of_decide_eq_true rfl) (edge hED 17 (by kernel_rfl)) rfl
   have hg:=(hI.vot 26 (of_decide_eq_true rfl) (of_decide_eq_true rfl) rfl)
   have hc0:W.cell? ⟨w.heap.size,2,none⟩=some (.int .i64 x.key.1):=(cell_of_row _ _ 2 _ _ (0,0) hg).trans rfl
   have hc1:W.cell? ⟨w.heap.size,3,none⟩=some (.int .u64 x.key.2.1):=(cell_of_row _ _ 3 _ _ (0,0) hg).trans rfl
   have hc2:W.cell? ⟨w.heap.size,4,none⟩=some (.int .i64 x.key.2.2):=(cell_of_row _ _ 4 _ _ (0,0) hg).trans rfl
   exact opw_load1 41 20 rfl _ f _ (by simp [Instr.loadAt,go_sem,hc0,hc1,hc2]) (hKQ.out _ _ (hI.put 18 21 rfl rfl (by rw [hz]; decide) rfl hUN rfl HBB (riD_stb s x l vb w.heap.size (w.heap.size)) (Below.refl _ _) rfl))
  ·intro lQ b W hI hUN hED KQ hKQ
   refine rk_take 16 true 19 rfl rfl (hI.got 16 (of_decide_eq_true rfl) (edge hED 16 (by kernel_rfl)) rfl) ?_
   have hg:=(hI.vot 26 (of_decide_eq_true rfl) (of_decide_eq_true rfl) rfl)
   refine wp_load_row 62 _ rfl (w.heap.size) ((hI.fr.same 1 (by decide)).trans g1) 62 #[.slice s.a1 s.n1 s.c1,.slice s.a2 s.n2 s.c2,.int .i64 x.key.1,.int .u64 x.key.2.1,.int .i64 x.key.2.2,.slice s.a3 s.n3 s.c3] (0,0) _ hg Tryz.underlying62 rfl (by kernel_rfl) ?_
   exact hKQ.out _ _ (hI.put 19 22 rfl rfl (by rw [hz]; decide) rfl hUN rfl HBB (riD_stb s x l vb w.heap.size (w.heap.size)) (Below.refl _ _) rfl)
  ·intro lQ b W hI hUN hED KQ hKQ
   refine rk_take 16 true 19 rfl rfl (hI.got 16 (of_decide_eq_true rfl) (edge hED 16 (by kernel_rfl)) rfl) ?_
   have f0:aT b 22=.agg #[.slice s.a1 s.n1 s.c1,.slice s.a2 s.n2 s.c2,.int .i64 x.key.1,.int .u64 x.key.2.1,.int .i64 x.key.2.2,.slice s.a3 s.n3 s.c3]:=hI.got 19 (of_decide_eq_true rfl) (edge hED 19 (by kernel_rfl)) rfl
   refine opw_call 70 #[.tmp 22] _ _ _ rfl Tryz.func70 (by kernel_rfl) rfl #[.agg #[.slice s.a1 s.n1 s.c1,.slice s.a2 s.n2 s.c2,.int .i64 x.key.1,.int .u64 x.key.2.1,.int .i64 x.key.2.2,.slice s.a3 s.n3 s.c3]] (by simp [ev,f0]) ?_
   refine (HBD.out W hI.bel).mono ?_
   rintro r W2 ⟨a4,c4,rfl,ho,hb⟩
   exact ⟨_,rfl,hKQ.out _ _ (hI.put 20 23 rfl rfl (by rw [hz]; decide) rfl hUN rfl HBB (riD_stb s x l vb w.heap.size (w.heap.size)) hb ⟨a4,c4,rfl,ho.mono (Nat.le_trans HBB hI.bel.size)⟩)⟩
  ·intro lQ b W hI hUN hED KQ hKQ
   refine rk_take 16 true 19 rfl rfl (hI.got 16 (of_decide_eq_true rfl) (edge hED 16 (by kernel_rfl)) rfl) ?_
   exact opw_field 62 1 3 rfl _ ((hI.fr.same 1 (by decide)).trans g1) _ (by kernel_rfl) (hKQ.out _ _ (hI.put 21 24 rfl rfl (by rw [hz]; decide) rfl hUN rfl HBB (riD_stb s x l vb w.heap.size (w.heap.size)) (Below.refl _ _) rfl))
  ·intro lQ b W hI hUN hED KQ hKQ
   refine rk_take 16 true 19 rfl rfl (hI.got 16 (of_decide_eq_true rfl) (edge hED 16 (by kernel_rfl)) rfl) ?_
   have f:=hI.got 21 (of_decide_eq_true rfl) (edge hED 21 (by kernel_rfl)) rfl
   have hg:=(hI.vot 26 (of_decide_eq_true rfl) (of_decide_eq_true rfl) rfl)
   have hc:W.cell? ⟨w.heap.size,5,none⟩=some (.slice s.a3 s.n3 s.c3):=(cell_of_row _ _ 5 _ _ (0,0) hg).trans rfl
   exact opw_load1 32 24 rfl _ f _ (by simp [Instr.loadAt,go_sem,hc]) (hKQ.out _ _ (hI.put 22 25 rfl rfl (by rw [hz]; decide) rfl hUN rfl HBB (riD_stb s x l vb w.heap.size (w.heap.size)) (Below.refl _ _) rfl))
  ·intro lQ b W hI hUN hED KQ hKQ
   refine rk_take 16 true 19 rfl rfl (hI.got 16 (of_decide_eq_true rfl) (edge hED 16 (by kernel_rfl)) rfl) ?_
   have f0:aT b 21=.agg #[.int .i64 x.key.1,.int .u64 x.key.2.1,.int .i64 x.key.2.2]:=hI.got 18 (of_decide_eq_true rfl) (edge hED 18 (by kernel_rfl)) rfl
   obtain ⟨a4,c4,f1,o1⟩:=hI.got 20 (of_decide_eq_true rfl) (edge hED 20 (by kernel_rfl)) rfl
   replace f1:aT b 23=.slice a4 l.length c4:=f1
   have f2:aT b 25=.slice s.a3 s.n3 s.c3:=hI.got 22 (of_decide_eq_true rfl) (edge hED 22 (by kernel_rfl)) rfl
   refine opw_call 64 #[.tmp 21,.tmp 23,.tmp 25] _ _ _ rfl Tryz.func64 (by kernel_rfl) rfl #[.agg #[.int .i64 x.key.1,.int .u64 x.key.2.1,.int .i64 x.key.2.2],.slice a4 l.length c4,.slice s.a3 s.n3 s.c3] (by simp [ev,f0,f1,f2]) ?_
   refine (HVF.out W a4 c4 hI.bel o1).mono ?_
   rintro r W2 ⟨rfl,hb⟩
   exact ⟨_,rfl,hKQ.out _ _ (hI.put 23 26 rfl rfl (by rw [hz]; decide) rfl hUN rfl HBB (riD_stb s x l vb w.heap.size (w.heap.size)) hb rfl)⟩
  ·intro lQ b W hI hUN hED KQ hKQ
   refine rk_plain rfl ?_
   have fc:aT b 19=.bool true:=hI.got 16 (of_decide_eq_true rfl) (edge hED 16 (by kernel_rfl)) rfl
   have f:=hI.got 23 (of_decide_eq_true rfl) (edge hED 23 (by kernel_rfl)) rfl
   replace f:aT b 26=.bool vb:=f
   exact opw_pick_t 19 _ _ rfl fc _ f (hKQ.out _ _ (hI.put 24 27 rfl rfl (by rw [hz]; decide) rfl hUN rfl HBB (riD_stb s x l vb w.heap.size (w.heap.size)) (Below.refl _ _) rfl))
  ·intro lQ b W hI hUN hED KQ hKQ
   refine rk_plain rfl ?_
   have f:=hI.got 24 (of_decide_eq_true rfl) (edge hED 24 (by kernel_rfl)) rfl
   exact opw_assign 27 rfl (hKQ.out _ _ (hI.put 25 2 rfl rfl (by rw [hz]; decide) rfl hUN rfl HBB (riD_stb s x l vb w.heap.size (w.heap.size)) (Below.refl _ _) f))
 ·intro b W hf hb F
  have e2:aT b 2=.bool vb:=F 25 (of_decide_eq_true rfl) rfl
  rw [hf.eq]
  simp only [puts,Act.put,List.setIfInBounds_toArray,List.set_cons_zero,List.set_cons_succ,e2]
  clear hf F e2
  generalize aT b=AT
  clear b
  go_wp2
  go_ret
  exact ⟨vb,rfl,HVB,hB0.trans hb⟩
def rsA (s:RQS)(x:RQ)(l:List Int)(vb:Bool)(G B:Nat):RSpec where
 m:=23
 n:=24
 slots:=[3,4,5,6,7,8,9,10,11,12,13,14,15,16,17,18,19,20,21,22,23,24,2,100023]
 kills:=[[],[],[],[],[],[],[],[],[],[],[],[],[],[],[],[],[],[],[],[],[],[],[],[]]
 pres:=[[],[],[],[],[],[],[],[],[],[],[],[],[],[],[],[],[],[],[],[],[],[],[],[]]
 fact:=fun k v w=>match k with
  | 0=>v=.agg #[.slice s.a1 s.n1 s.c1,.slice s.a2 s.n2 s.c2,.int .i64 x.key.1,.int .u64 x.key.2.1,.int .i64 x.key.2.2,.slice s.a3 s.n3 s.c3]
  | 1=>v=.bool false
  | 2=>v=.bool false
  | 3=>v=undef
  | 4=>v=undef
  | 5=>v=undef
  | 6=>v=.bool false
  | 7=>v=.bool false
  | 8=>v=undef
  | 9=>v=undef
  | 10=>v=undef
  | 11=>v=undef
  | 12=>v=.bool false
  | 13=>v=.bool false
  | 14=>v=undef
  | 15=>v=undef
  | 16=>v=undef
  | 17=>v=undef
  | 18=>v=undef
  | 19=>v=undef
  | 20=>v=undef
  | 21=>v=.bool false
  | 22=>v=.bool false
  | _=>w.heap[G]? = some (.cells #[.slice s.a1 s.n1 s.c1,.slice s.a2 s.n2 s.c2,.int .i64 x.key.1,.int .u64 x.key.2.1,.int .i64 x.key.2.2,.slice s.a3 s.n3 s.c3] 62 (0,0))
theorem rsA_stb (s:RQS)(x:RQ)(l:List Int)(vb:Bool)(G B:Nat)(k:Nat)(hk:k<24):StB ((rsA s x l vb G (B)).fact k):=by
 match k,hk with
 | 0,_=>exact fun _ _ _ h _=>h
 | 1,_=>exact fun _ _ _ h _=>h
 | 2,_=>exact fun _ _ _ h _=>h
 | 3,_=>exact fun _ _ _ h _=>h
 | 4,_=>exact fun _ _ _ h _=>h
 | 5,_=>exact fun _ _ _ h _=>h
 | 6,_=>exact fun _ _ _ h _=>h
 | 7,_=>exact fun _ _ _ h _=>h
 | 8,_=>exact fun _ _ _ h _=>h
 | 9,_=>exact fun _ _ _ h _=>h
 | 10,_=>exact fun _ _ _ h _=>h
 | 11,_=>exact fun _ _ _ h _=>h
 | 12,_=>exact fun _ _ _ h _=>h
 | 13,_=>exact fun _ _ _ h _=>h
 | 14,_=>exact fun _ _ _ h _=>h
 | 15,_=>exact fun _ _ _ h _=>h
 | 16,_=>exact fun _ _ _ h _=>h
 | 17,_=>exact fun _ _ _ h _=>h
 | 18,_=>exact fun _ _ _ h _=>h
 | 19,_=>exact fun _ _ _ h _=>h
 | 20,_=>exact fun _ _ _ h _=>h
 | 21,_=>exact fun _ _ _ h _=>h
 | 22,_=>exact fun _ _ _ h _=>h
 | 23,_=>exact fun _ _ _ q_0 hb=>below_kept q_0 hb
 | k+24,hk=>omega
def rsB (s:RQS)(x:RQ)(l:List Int)(vb:Bool)(G B:Nat):RSpec where
 m:=23
 n:=24
 slots:=[3,4,5,6,7,8,9,10,11,12,13,14,15,16,17,18,19,20,21,22,23,24,2,100023]
 kills:=[[],[],[],[],[],[],[],[],[],[],[],[],[],[],[],[],[],[],[],[],[],[],[],[]]
 pres:=[[],[],[],[],[],[],[],[],[],[],[],[],[],[],[],[],[],[],[],[],[],[],[],[]]
 fact:=fun k v w=>match k with
  | 0=>v=.agg #[.slice s.a1 s.n1 s.c1,.slice s.a2 s.n2 s.c2,.int .i64 x.key.1,.int .u64 x.key.2.1,.int .i64 x.key.2.2,.slice s.a3 s.n3 s.c3]
  | 1=>v=.bool true
  | 2=>v=.bool true
  | 3=>v=.pointer (some ⟨G,2,none⟩)
  | 4=>v=.agg #[.int .i64 x.key.1,.int .u64 x.key.2.1,.int .i64 x.key.2.2]
  | 5=>v=.bool false
  | 6=>v=.bool false
  | 7=>v=.bool false
  | 8=>v=undef
  | 9=>v=undef
  | 10=>v=undef
  | 11=>v=undef
  | 12=>v=.bool false
  | 13=>v=.bool false
  | 14=>v=undef
  | 15=>v=undef
  | 16=>v=undef
  | 17=>v=undef
  | 18=>v=undef
  | 19=>v=undef
  | 20=>v=undef
  | 21=>v=.bool false
  | 22=>v=.bool false
  | _=>w.heap[G]? = some (.cells #[.slice s.a1 s.n1 s.c1,.slice s.a2 s.n2 s.c2,.int .i64 x.key.1,.int .u64 x.key.2.1,.int .i64 x.key.2.2,.slice s.a3 s.n3 s.c3] 62 (0,0))
theorem rsB_stb (s:RQS)(x:RQ)(l:List Int)(vb:Bool)(G B:Nat)(k:Nat)(hk:k<24):StB ((rsB s x l vb G (B)).fact k):=by
 match k,hk with
 | 0,_=>exact fun _ _ _ h _=>h
 | 1,_=>exact fun _ _ _ h _=>h
 | 2,_=>exact fun _ _ _ h _=>h
 | 3,_=>exact fun _ _ _ h _=>h
 | 4,_=>exact fun _ _ _ h _=>h
 | 5,_=>exact fun _ _ _ h _=>h
 | 6,_=>exact fun _ _ _ h _=>h
 | 7,_=>exact fun _ _ _ h _=>h
 | 8,_=>exact fun _ _ _ h _=>h
 | 9,_=>exact fun _ _ _ h _=>h
 | 10,_=>exact fun _ _ _ h _=>h
 | 11,_=>exact fun _ _ _ h _=>h
 | 12,_=>exact fun _ _ _ h _=>h
 | 13,_=>exact fun _ _ _ h _=>h
 | 14,_=>exact fun _ _ _ h _=>h
 | 15,_=>exact fun _ _ _ h _=>h
 | 16,_=>exact fun _ _ _ h _=>h
 | 17,_=>exact fun _ _ _ h _=>h
 | 18,_=>exact fun _ _ _ h _=>h
 | 19,_=>exact fun _ _ _ h _=>h
 | 20,_=>exact fun _ _ _ h _=>h
 | 21,_=>exact fun _ _ _ h _=>h
 | 22,_=>exact fun _ _ _ h _=>h
 | 23,_=>exact fun _ _ _ q_0 hb=>below_kept q_0 hb
 | k+24,hk=>omega
def rsC (s:RQS)(x:RQ)(l:List Int)(vb:Bool)(G B:Nat):RSpec where
 m:=23
 n:=24
 slots:=[3,4,5,6,7,8,9,10,11,12,13,14,15,16,17,18,19,20,21,22,23,24,2,100023]
 kills:=[[],[],[],[],[],[],[],[],[],[],[],[],[],[],[],[],[],[],[],[],[],[],[],[]]
 pres:=[[],[],[],[],[],[],[],[],[],[],[],[],[],[],[],[],[],[],[],[],[],[],[],[]]
 fact:=fun k v w=>match k with
  | 0=>v=.agg #[.slice s.a1 s.n1 s.c1,.slice s.a2 s.n2 s.c2,.int .i64 x.key.1,.int .u64 x.key.2.1,.int .i64 x.key.2.2,.slice s.a3 s.n3 s.c3]
  | 1=>v=.bool true
  | 2=>v=.bool true
  | 3=>v=.pointer (some ⟨G,2,none⟩)
  | 4=>v=.agg #[.int .i64 x.key.1,.int .u64 x.key.2.1,.int .i64 x.key.2.2]
  | 5=>v=.bool true
  | 6=>v=.bool true
  | 7=>v=.bool true
  | 8=>v=.pointer (some ⟨G,5,none⟩)
  | 9=>v=.slice s.a3 s.n3 s.c3
  | 10=>v=.int .i64 s.n3
  | 11=>v=.bool false
  | 12=>v=.bool false
  | 13=>v=.bool false
  | 14=>v=undef
  | 15=>v=undef
  | 16=>v=undef
  | 17=>v=undef
  | 18=>v=undef
  | 19=>v=undef
  | 20=>v=undef
  | 21=>v=.bool false
  | 22=>v=.bool false
  | _=>w.heap[G]? = some (.cells #[.slice s.a1 s.n1 s.c1,.slice s.a2 s.n2 s.c2,.int .i64 x.key.1,.int .u64 x.key.2.1,.int .i64 x.key.2.2,.slice s.a3 s.n3 s.c3] 62 (0,0))
theorem rsC_stb (s:RQS)(x:RQ)(l:List Int)(vb:Bool)(G B:Nat)(k:Nat)(hk:k<24):StB ((rsC s x l vb G (B)).fact k):=by
 match k,hk with
 | 0,_=>exact fun _ _ _ h _=>h
 | 1,_=>exact fun _ _ _ h _=>h
 | 2,_=>exact fun _ _ _ h _=>h
 | 3,_=>exact fun _ _ _ h _=>h
 | 4,_=>exact fun _ _ _ h _=>h
 | 5,_=>exact fun _ _ _ h _=>h
 | 6,_=>exact fun _ _ _ h _=>h
 | 7,_=>exact fun _ _ _ h _=>h
 | 8,_=>exact fun _ _ _ h _=>h
 | 9,_=>exact fun _ _ _ h _=>h
 | 10,_=>exact fun _ _ _ h _=>h
 | 11,_=>exact fun _ _ _ h _=>h
 | 12,_=>exact fun _ _ _ h _=>h
 | 13,_=>exact fun _ _ _ h _=>h
 | 14,_=>exact fun _ _ _ h _=>h
 | 15,_=>exact fun _ _ _ h _=>h
 | 16,_=>exact fun _ _ _ h _=>h
 | 17,_=>exact fun _ _ _ h _=>h
 | 18,_=>exact fun _ _ _ h _=>h
 | 19,_=>exact fun _ _ _ h _=>h
 | 20,_=>exact fun _ _ _ h _=>h
 | 21,_=>exact fun _ _ _ h _=>h
 | 22,_=>exact fun _ _ _ h _=>h
 | 23,_=>exact fun _ _ _ q_0 hb=>below_kept q_0 hb
 | k+24,hk=>omega
def rsD (s:RQS)(x:RQ)(l:List Int)(vb:Bool)(G B:Nat):RSpec where
 m:=23
 n:=24
 slots:=[3,4,5,6,7,8,9,10,11,12,13,14,15,16,17,18,19,20,21,22,23,24,2,100023]
 kills:=[[],[],[],[],[],[],[],[],[],[],[],[],[],[],[],[],[],[],[],[],[],[],[],[]]
 pres:=[[],[],[],[],[],[],[],[],[],[],[],[],[],[],[],[],[],[],[],[],[],[],[],[]]
 fact:=fun k v w=>match k with
  | 0=>v=.agg #[.slice s.a1 s.n1 s.c1,.slice s.a2 s.n2 s.c2,.int .i64 x.key.1,.int .u64 x.key.2.1,.int .i64 x.key.2.2,.slice s.a3 s.n3 s.c3]
  | 1=>v=.bool true
  | 2=>v=.bool true
  | 3=>v=.pointer (some ⟨G,2,none⟩)
  | 4=>v=.agg #[.int .i64 x.key.1,.int .u64 x.key.2.1,.int .i64 x.key.2.2]
  | 5=>v=.bool true
  | 6=>v=.bool true
  | 7=>v=.bool true
  | 8=>v=.pointer (some ⟨G,5,none⟩)
  | 9=>v=.slice s.a3 s.n3 s.c3
  | 10=>v=.int .i64 s.n3
  | 11=>v=.bool true
  | 12=>v=.bool true
  | 13=>v=.bool true
  | 14=>v=.pointer (some ⟨G,2,none⟩)
  | 15=>v=.agg #[.int .i64 x.key.1,.int .u64 x.key.2.1,.int .i64 x.key.2.2]
  | 16=>v=.agg #[.slice s.a1 s.n1 s.c1,.slice s.a2 s.n2 s.c2,.int .i64 x.key.1,.int .u64 x.key.2.1,.int .i64 x.key.2.2,.slice s.a3 s.n3 s.c3]
  | 17=>∃ a4 c4,v=.slice a4 l.length c4∧Own B w a4 l.length c4 l
  | 18=>v=.pointer (some ⟨G,5,none⟩)
  | 19=>v=.slice s.a3 s.n3 s.c3
  | 20=>v=.bool vb
  | 21=>v=.bool vb
  | 22=>v=.bool vb
  | _=>w.heap[G]? = some (.cells #[.slice s.a1 s.n1 s.c1,.slice s.a2 s.n2 s.c2,.int .i64 x.key.1,.int .u64 x.key.2.1,.int .i64 x.key.2.2,.slice s.a3 s.n3 s.c3] 62 (0,0))
theorem rsD_stb (s:RQS)(x:RQ)(l:List Int)(vb:Bool)(G B:Nat)(k:Nat)(hk:k<24):StB ((rsD s x l vb G (B)).fact k):=by
 match k,hk with
 | 0,_=>exact fun _ _ _ h _=>h
 | 1,_=>exact fun _ _ _ h _=>h
 | 2,_=>exact fun _ _ _ h _=>h
 | 3,_=>exact fun _ _ _ h _=>h
 | 4,_=>exact fun _ _ _ h _=>h
 | 5,_=>exact fun _ _ _ h _=>h
 | 6,_=>exact fun _ _ _ h _=>h
 | 7,_=>exact fun _ _ _ h _=>h
 | 8,_=>exact fun _ _ _ h _=>h
 | 9,_=>exact fun _ _ _ h _=>h
 | 10,_=>exact fun _ _ _ h _=>h
 | 11,_=>exact fun _ _ _ h _=>h
 | 12,_=>exact fun _ _ _ h _=>h
 | 13,_=>exact fun _ _ _ h _=>h
 | 14,_=>exact fun _ _ _ h _=>h
 | 15,_=>exact fun _ _ _ h _=>h
 | 16,_=>exact fun _ _ _ h _=>h
 | 17,_=>exact fun _ _ _ ⟨a4,c4,hv,q_0⟩ hb=>⟨a4,c4,hv,q_0.kept hb⟩
 | 18,_=>exact fun _ _ _ h _=>h
 | 19,_=>exact fun _ _ _ h _=>h
 | 20,_=>exact fun _ _ _ h _=>h
 | 21,_=>exact fun _ _ _ h _=>h
 | 22,_=>exact fun _ _ _ h _=>h
 | 23,_=>exact fun _ _ _ q_0 hb=>below_kept q_0 hb
 | k+24,hk=>omega
theorem specReqOk_any (s:RQS)(x:RQ)(w:World)(h:RQR w s x)(hz:RQZ x)(ht:RQT s)(hu:U64 x.key.2.1) :
  Calls Tryz.prog 25 #[RQv s x] w (Says (rqP x) w):=by
 have hzn:=h.zn.1 hz
 show Calls Tryz.prog 25 #[.agg #[.slice s.a1 s.n1 s.c1,.slice s.a2 s.n2 s.c2,.int .i64 x.key.1,.int .u64 x.key.2.1,.int .i64 x.key.2.2,.slice s.a3 s.n3 s.c3]] w _
 obtain ⟨w0,hw0⟩:∃ w0,w0=w.alloc (.cells #[.slice s.a1 s.n1 s.c1,.slice s.a2 s.n2 s.c2,.int .i64 x.key.1,.int .u64 x.key.2.1,.int .i64 x.key.2.2,.slice s.a3 s.n3 s.c3] 62):=⟨_,rfl⟩
 have hB0:Below w.heap.size w w0:=by rw [hw0]; exact (Below.refl _ _).alloc (Nat.le_refl _) _
 have L0:Hid (w0.heap[w.heap.size]? = some (.cells #[.slice s.a1 s.n1 s.c1,.slice s.a2 s.n2 s.c2,.int .i64 x.key.1,.int .u64 x.key.2.1,.int .i64 x.key.2.2,.slice s.a3 s.n3 s.c3] 62 (0,0))):=by show _=_; rw [hw0]; exact heap_alloc_new w _
 have HW:Hid (_=_):=hw0
 have HBB:w.heap.size≤w0.heap.size:=hB0.size
 have hln:x.sig.length=s.n3:=h.r3.len
 have how:∀ W,Below w.heap.size w0 W→Calls Tryz.prog 65 #[.agg #[.slice s.a1 s.n1 s.c1,.slice s.a2 s.n2 s.c2,.int .i64 x.key.1,.int .u64 x.key.2.1,.int .i64 x.key.2.2,.slice s.a3 s.n3 s.c3]] W (Says (ownP x.sub x.nms) W):=fun W hW=>l9ReqRight_any s x W (h.kept (hB0.trans hW)) hz
 clear hw0
 by_cases ho:ownP x.sub x.nms
 case neg =>
  have HN:Hid (¬ rqP x):=fun q=>ho q.1
  have HOW:Hid (∀ W,Below w.heap.size w0 W→Calls Tryz.prog 65 #[.agg #[.slice s.a1 s.n1 s.c1,.slice s.a2 s.n2 s.c2,.int .i64 x.key.1,.int .u64 x.key.2.1,.int .i64 x.key.2.2,.slice s.a3 s.n3 s.c3]] W fun e w'=>e=.returned (.bool false)∧Below W.heap.size W w'):=fun W hW=>(how W hW).mono (fun e w' q=>by
   obtain ⟨v,e1,e2,e3⟩:=q
   obtain rfl:=sayQ_f e2 ho
   exact ⟨e1,e3⟩)
  obtain ⟨l,hl⟩:∃ l:List Int,l = []:=⟨_,rfl⟩
  obtain ⟨vb,hv⟩:∃ vb:Bool,vb=false:=⟨_,rfl⟩
  clear how ho h hz ht hu hzn hln hl hv
  go_enter Tryz.func25,Tryz.ntmps25
  go_upto_region 1 with fail
  rw [← HW.out]
  clear HW
  refine wp_region_rk (rsA s x l vb w.heap.size (w.heap.size)) [2,3,4,5,6,7,8,9,10,11,12,13,14,15,16,17,18,19,20,21,22,23,24] (w.heap.size) (fun a0=>a0.tmps.size=25∧aT a0 1=.pointer (some ⟨w.heap.size,0,none⟩)) (by kernel_rfl) rfl (by kernel_rfl) rfl ⟨rfl,rfl⟩ (rsA_stb s x l vb w.heap.size (w.heap.size)) ?_ ?_ ?_
  ·intro k hk hk2
   match k,hk,hk2 with
   | 23,_,_=>exact L0.out
   | 0,hk,_=>exact absurd hk (by show ¬ (23≤0); omega)
   | 1,hk,_=>exact absurd hk (by show ¬ (23≤1); omega)
   | 2,hk,_=>exact absurd hk (by show ¬ (23≤2); omega)
   | 3,hk,_=>exact absurd hk (by show ¬ (23≤3); omega)
   | 4,hk,_=>exact absurd hk (by show ¬ (23≤4); omega)
   | 5,hk,_=>exact absurd hk (by show ¬ (23≤5); omega)
   | 6,hk,_=>exact absurd hk (by show ¬ (23≤6); omega)
   | 7,hk,_=>exact absurd hk (by show ¬ (23≤7); omega)
   | 8,hk,_=>exact absurd hk (by show ¬ (23≤8); omega)
   | 9,hk,_=>exact absurd hk (by show ¬ (23≤9); omega)
   | 10,hk,_=>exact absurd hk (by show ¬ (23≤10); omega)
   | 11,hk,_=>exact absurd hk (by show ¬ (23≤11); omega)
   | 12,hk,_=>exact absurd hk (by show ¬ (23≤12); omega)
   | 13,hk,_=>exact absurd hk (by show ¬ (23≤13); omega)
   | 14,hk,_=>exact absurd hk (by show ¬ (23≤14); omega)
   | 15,hk,_=>exact absurd hk (by show ¬ (23≤15); omega)
   | 16,hk,_=>exact absurd hk (by show ¬ (23≤16); omega)
   | 17,hk,_=>exact absurd hk (by show ¬ (23≤17); omega)
   | 18,hk,_=>exact absurd hk (by show ¬ (23≤18); omega)
   | 19,hk,_=>exact absurd hk (by show ¬ (23≤19); omega)
   | 20,hk,_=>exact absurd hk (by show ¬ (23≤20); omega)
   | 21,hk,_=>exact absurd hk (by show ¬ (23≤21); omega)
   | 22,hk,_=>exact absurd hk (by show ¬ (23≤22); omega)
   | k+24,_,hk2=>exact absurd hk2 (by show ¬ (k+24<24); omega)
  ·rintro a0 ⟨hz,g1⟩
   refine StepsRK.cons ?_ (StepsRK.cons ?_ (StepsRK.cons ?_ (StepsRK.cons ?_ (StepsRK.cons ?_ (StepsRK.cons ?_ (StepsRK.cons ?_ (StepsRK.cons ?_ (StepsRK.cons ?_ (StepsRK.cons ?_ (StepsRK.cons ?_ (StepsRK.cons ?_ (StepsRK.cons ?_ (StepsRK.cons ?_ (StepsRK.cons ?_ (StepsRK.cons ?_ (StepsRK.cons ?_ (StepsRK.cons ?_ (StepsRK.cons ?_ (StepsRK.cons ?_ (StepsRK.cons ?_ (StepsRK.cons ?_ (StepsRK.cons ?_ (StepsRK.nil)))))))))))))))))))))))
   ·intro lQ b W hI hUN hED KQ hKQ
    refine rk_plain rfl ?_
    have hg:=(hI.vot 23 (of_decide_eq_true rfl) (of_decide_eq_true rfl) rfl)
    refine wp_load_row 62 _ rfl (w.heap.size) ((hI.fr.same 1 (by decide)).trans g1) 62 #[.slice s.a1 s.n1 s.c1,.slice s.a2 s.n2 s.c2,.int .i64 x.key.1,.int .u64 x.key.2.1,.int .i64 x.key.2.2,.slice s.a3 s.n3 s.c3] (0,0) _ hg Tryz.underlying62 rfl (by kernel_rfl) ?_
    exact hKQ.out _ _ (hI.put 0 3 rfl rfl (by rw [hz]; decide) rfl hUN rfl HBB (rsA_stb s x l vb w.heap.size (w.heap.size)) (Below.refl _ _) rfl)
   ·intro lQ b W hI hUN hED KQ hKQ
    refine rk_plain rfl ?_
    have f0:aT b 3=.agg #[.slice s.a1 s.n1 s.c1,.slice s.a2 s.n2 s.c2,.int .i64 x.key.1,.int .u64 x.key.2.1,.int .i64 x.key.2.2,.slice s.a3 s.n3 s.c3]:=hI.got 0 (of_decide_eq_true rfl) (edge hED 0 (by kernel_rfl)) rfl
    refine opw_call 65 #[.tmp 3] _ _ _ rfl Tryz.func65 (by kernel_rfl) rfl #[.agg #[.slice s.a1 s.n1 s.c1,.slice s.a2 s.n2 s.c2,.int .i64 x.key.1,.int .u64 x.key.2.1,.int .i64 x.key.2.2,.slice s.a3 s.n3 s.c3]] (by simp [ev,f0]) ?_
    refine (HOW.out W hI.bel).mono ?_
    rintro r W2 ⟨rfl,hb⟩
    exact ⟨_,rfl,hKQ.out _ _ (hI.put 1 4 rfl rfl (by rw [hz]; decide) rfl hUN rfl HBB (rsA_stb s x l vb w.heap.size (w.heap.size)) hb rfl)⟩
   ·intro lQ b W hI hUN hED KQ hKQ
    refine rk_plain rfl ?_
    have f:=hI.got 1 (of_decide_eq_true rfl) (edge hED 1 (by kernel_rfl)) rfl
    exact opw_move 4 rfl (hKQ.out _ _ (hI.put 2 5 rfl rfl (by rw [hz]; decide) rfl hUN rfl HBB (rsA_stb s x l vb w.heap.size (w.heap.size)) (Below.refl _ _) f))
   ·intro lQ b W hI hUN hED KQ hKQ
    exact rk_skip 2 true 5 (.bool false) rfl rfl (hI.got 2 (of_decide_eq_true rfl) (edge hED 2 (by kernel_rfl)) rfl) rfl (hKQ.out _ _ (hI.put 3 6 rfl rfl (by rw [hz]; decide) rfl hUN rfl HBB (rsA_stb s x l vb w.heap.size (w.heap.size)) (Below.refl _ _) rfl))
   ·intro lQ b W hI hUN hED KQ hKQ
    exact rk_skip 2 true 5 (.bool false) rfl rfl (hI.got 2 (of_decide_eq_true rfl) (edge hED 2 (by kernel_rfl)) rfl) rfl (hKQ.out _ _ (hI.put 4 7 rfl rfl (by rw [hz]; decide) rfl hUN rfl HBB (rsA_stb s x l vb w.heap.size (w.heap.size)) (Below.refl _ _) rfl))
   ·intro lQ b W hI hUN hED KQ hKQ
    exact rk_skip 2 true 5 (.bool false) rfl rfl (hI.got 2 (of_decide_eq_true rfl) (edge hED 2 (by kernel_rfl)) rfl) rfl (hKQ.out _ _ (hI.put 5 8 rfl rfl (by rw [hz]; decide) rfl hUN rfl HBB (rsA_stb s x l vb w.heap.size (w.heap.size)) (Below.refl _ _) rfl))
   ·intro lQ b W hI hUN hED KQ hKQ
    refine rk_plain rfl ?_
    have fc:aT b 5=.bool false:=hI.got 2 (of_decide_eq_true rfl) (edge hED 2 (by kernel_rfl)) rfl
    exact opw_pick_f 5 _ _ rfl fc _ rfl (hKQ.out _ _ (hI.put 6 9 rfl rfl (by rw [hz]; decide) rfl hUN rfl HBB (rsA_stb s x l vb w.heap.size (w.heap.size)) (Below.refl _ _) rfl))
   ·intro lQ b W hI hUN hED KQ hKQ
    refine rk_plain rfl ?_
    have f:=hI.got 6 (of_decide_eq_true rfl) (edge hED 6 (by kernel_rfl)) rfl
    exact opw_move 9 rfl (hKQ.out _ _ (hI.put 7 10 rfl rfl (by rw [hz]; decide) rfl hUN rfl HBB (rsA_stb s x l vb w.heap.size (w.heap.size)) (Below.refl _ _) f))
   ·intro lQ b W hI hUN hED KQ hKQ
    exact rk_skip 7 true 10 (.bool false) rfl rfl (hI.got 7 (of_decide_eq_true rfl) (edge hED 7 (by kernel_rfl)) rfl) rfl (hKQ.out _ _ (hI.put 8 11 rfl rfl (by rw [hz]; decide) rfl hUN rfl HBB (rsA_stb s x l vb w.heap.size (w.heap.size)) (Below.refl _ _) rfl))
   ·intro lQ b W hI hUN hED KQ hKQ
    exact rk_skip 7 true 10 (.bool false) rfl rfl (hI.got 7 (of_decide_eq_true rfl) (edge hED 7 (by kernel_rfl)) rfl) rfl (hKQ.out _ _ (hI.put 9 12 rfl rfl (by rw [hz]; decide) rfl hUN rfl HBB (rsA_stb s x l vb w.heap.size (w.heap.size)) (Below.refl _ _) rfl))
   ·intro lQ b W hI hUN hED KQ hKQ
    exact rk_skip 7 true 10 (.bool false) rfl rfl (hI.got 7 (of_decide_eq_true rfl) (edge hED 7 (by kernel_rfl)) rfl) rfl (hKQ.out _ _ (hI.put 10 13 rfl rfl (by rw [hz]; decide) rfl hUN rfl HBB (rsA_stb s x l vb w.heap.size (w.heap.size)) (Below.refl _ _) rfl))
   ·intro lQ b W hI hUN hED KQ hKQ
    exact rk_skip 7 true 10 (.bool false) rfl rfl (hI.got 7 (of_decide_eq_true rfl) (edge hED 7 (by kernel_rfl)) rfl) rfl (hKQ.out _ _ (hI.put 11 14 rfl rfl (by rw [hz]; decide) rfl hUN rfl HBB (rsA_stb s x l vb w.heap.size (w.heap.size)) (Below.refl _ _) rfl))
   ·intro lQ b W hI hUN hED KQ hKQ
    refine rk_plain rfl ?_
    have fc:aT b 10=.bool false:=hI.got 7 (of_decide_eq_true rfl) (edge hED 7 (by kernel_rfl)) rfl
    exact opw_pick_f 10 _ _ rfl fc _ rfl (hKQ.out _ _ (hI.put 12 15 rfl rfl (by rw [hz]; decide) rfl hUN rfl HBB (rsA_stb s x l vb w.heap.size (w.heap.size)) (Below.refl _ _) rfl))
   ·intro lQ b W hI hUN hED KQ hKQ
    refine rk_plain rfl ?_
    have f:=hI.got 12 (of_decide_eq_true rfl) (edge hED 12 (by kernel_rfl)) rfl
    exact opw_move 15 rfl (hKQ.out _ _ (hI.put 13 16 rfl rfl (by rw [hz]; decide) rfl hUN rfl HBB (rsA_stb s x l vb w.heap.size (w.heap.size)) (Below.refl _ _) f))
   ·intro lQ b W hI hUN hED KQ hKQ
    exact rk_skip 13 true 16 (.bool false) rfl rfl (hI.got 13 (of_decide_eq_true rfl) (edge hED 13 (by kernel_rfl)) rfl) rfl (hKQ.out _ _ (hI.put 14 17 rfl rfl (by rw [hz]; decide) rfl hUN rfl HBB (rsA_stb s x l vb w.heap.size (w.heap.size)) (Below.refl _ _) rfl))
   ·intro lQ b W hI hUN hED KQ hKQ
    exact rk_skip 13 true 16 (.bool false) rfl rfl (hI.got 13 (of_decide_eq_true rfl) (edge hED 13 (by kernel_rfl)) rfl) rfl (hKQ.out _ _ (hI.put 15 18 rfl rfl (by rw [hz]; decide) rfl hUN rfl HBB (rsA_stb s x l vb w.heap.size (w.heap.size)) (Below.refl _ _) rfl))
   ·intro lQ b W hI hUN hED KQ hKQ
    exact rk_skip 13 true 16 (.bool false) rfl rfl (hI.got 13 (of_decide_eq_true rfl) (edge hED 13 (by kernel_rfl)) rfl) rfl (hKQ.out _ _ (hI.put 16 19 rfl rfl (by rw [hz]; decide) rfl hUN rfl HBB (rsA_stb s x l vb w.heap.size (w.heap.size)) (Below.refl _ _) rfl))
   ·intro lQ b W hI hUN hED KQ hKQ
    exact rk_skip 13 true 16 (.bool false) rfl rfl (hI.got 13 (of_decide_eq_true rfl) (edge hED 13 (by kernel_rfl)) rfl) rfl (hKQ.out _ _ (hI.put 17 20 rfl rfl (by rw [hz]; decide) rfl hUN rfl HBB (rsA_stb s x l vb w.heap.size (w.heap.size)) (Below.refl _ _) rfl))
   ·intro lQ b W hI hUN hED KQ hKQ
    exact rk_skip 13 true 16 (.bool false) rfl rfl (hI.got 13 (of_decide_eq_true rfl) (edge hED 13 (by kernel_rfl)) rfl) rfl (hKQ.out _ _ (hI.put 18 21 rfl rfl (by rw [hz]; decide) rfl hUN rfl HBB (rsA_stb s x l vb w.heap.size (w.heap.size)) (Below.refl _ _) rfl))
   ·intro lQ b W hI hUN hED KQ hKQ
    exact rk_skip 13 true 16 (.bool false) rfl rfl (hI.got 13 (of_decide_eq_true rfl) (edge hED 13 (by kernel_rfl)) rfl) rfl (hKQ.out _ _ (hI.put 19 22 rfl rfl (by rw [hz]; decide) rfl hUN rfl HBB (rsA_stb s x l vb w.heap.size (w.heap.size)) (Below.refl _ _) rfl))
   ·intro lQ b W hI hUN hED KQ hKQ
    exact rk_skip 13 true 16 (.bool false) rfl rfl (hI.got 13 (of_decide_eq_true rfl) (edge hED 13 (by kernel_rfl)) rfl) rfl (hKQ.out _ _ (hI.put 20 23 rfl rfl (by rw [hz]; decide) rfl hUN rfl HBB (rsA_stb s x l vb w.heap.size (w.heap.size)) (Below.refl _ _) rfl))
   ·intro lQ b W hI hUN hED KQ hKQ
    refine rk_plain rfl ?_
    have fc:aT b 16=.bool false:=hI.got 13 (of_decide_eq_true rfl) (edge hED 13 (by kernel_rfl)) rfl
    exact opw_pick_f 16 _ _ rfl fc _ rfl (hKQ.out _ _ (hI.put 21 24 rfl rfl (by rw [hz]; decide) rfl hUN rfl HBB (rsA_stb s x l vb w.heap.size (w.heap.size)) (Below.refl _ _) rfl))
   ·intro lQ b W hI hUN hED KQ hKQ
    refine rk_plain rfl ?_
    have f:=hI.got 21 (of_decide_eq_true rfl) (edge hED 21 (by kernel_rfl)) rfl
    exact opw_assign 24 rfl (hKQ.out _ _ (hI.put 22 2 rfl rfl (by rw [hz]; decide) rfl hUN rfl HBB (rsA_stb s x l vb w.heap.size (w.heap.size)) (Below.refl _ _) f))
  ·intro b W hf hb F
   have e2:aT b 2=.bool false:=F 22 (of_decide_eq_true rfl) rfl
   rw [hf.eq]
   simp only [puts,Act.put,List.setIfInBounds_toArray,List.set_cons_zero,List.set_cons_succ,e2]
   clear hf F e2
   generalize aT b=AT
   clear b
   go_wp2
   go_ret
   exact says_f HN.out (hB0.trans hb)
 have HOW:Hid (∀ W,Below w.heap.size w0 W→Calls Tryz.prog 65 #[.agg #[.slice s.a1 s.n1 s.c1,.slice s.a2 s.n2 s.c2,.int .i64 x.key.1,.int .u64 x.key.2.1,.int .i64 x.key.2.2,.slice s.a3 s.n3 s.c3]] W fun e w'=>e=.returned (.bool true)∧Below W.heap.size W w'):=fun W hW=>(how W hW).mono (fun e w' q=>by
  obtain ⟨v,e1,e2,e3⟩:=q
  obtain rfl:=sayQ_t e2 ho
  exact ⟨e1,e3⟩)
 by_cases hp:pubP x.key.1 x.key.2.1 x.key.2.2
 case neg =>
  have HN:Hid (¬ rqP x):=fun q=>hp q.2.1
  have HPU:Hid (∀ W,Below w.heap.size w0 W→Calls Tryz.prog 66 #[.agg #[.int .i64 x.key.1,.int .u64 x.key.2.1,.int .i64 x.key.2.2]] W fun e w'=>e=.returned (.bool false)∧Below W.heap.size W w'):=fun W hW=>(l8PubOk_any x.key.1 x.key.2.1 x.key.2.2 W hu).mono (fun e w' q=>by rw [decide_eq_false hp] at q; exact q)
  obtain ⟨l,hl⟩:∃ l:List Int,l = []:=⟨_,rfl⟩
  obtain ⟨vb,hv⟩:∃ vb:Bool,vb=false:=⟨_,rfl⟩
  clear how ho hp h hz ht hu hzn hln hl hv
  go_enter Tryz.func25,Tryz.ntmps25
  go_upto_region 1 with fail
  rw [← HW.out]
  clear HW
  refine wp_region_rk (rsB s x l vb w.heap.size (w.heap.size)) [2,3,4,5,6,7,8,9,10,11,12,13,14,15,16,17,18,19,20,21,22,23,24] (w.heap.size) (fun a0=>a0.tmps.size=25∧aT a0 1=.pointer (some ⟨w.heap.size,0,none⟩)) (by kernel_rfl) rfl (by kernel_rfl) rfl ⟨rfl,rfl⟩ (rsB_stb s x l vb w.heap.size (w.heap.size)) ?_ ?_ ?_
  ·intro k hk hk2
   match k,hk,hk2 with
   | 23,_,_=>exact L0.out
   | 0,hk,_=>exact absurd hk (by show ¬ (23≤0); omega)
   | 1,hk,_=>exact absurd hk (by show ¬ (23≤1); omega)
   | 2,hk,_=>exact absurd hk (by show ¬ (23≤2); omega)
   | 3,hk,_=>exact absurd hk (by show ¬ (23≤3); omega)
   | 4,hk,_=>exact absurd hk (by show ¬ (23≤4); omega)
   | 5,hk,_=>exact absurd hk (by show ¬ (23≤5); omega)
   | 6,hk,_=>exact absurd hk (by show ¬ (23≤6); omega)
   | 7,hk,_=>exact absurd hk (by show ¬ (23≤7); omega)
   | 8,hk,_=>exact absurd hk (by show ¬ (23≤8); omega)
   | 9,hk,_=>exact absurd hk (by show ¬ (23≤9); omega)
   | 10,hk,_=>exact absurd hk (by show ¬ (23≤10); omega)
   | 11,hk,_=>exact absurd hk (by show ¬ (23≤11); omega)
   | 12,hk,_=>exact absurd hk (by show ¬ (23≤12); omega)
   | 13,hk,_=>exact absurd hk (by show ¬ (23≤13); omega)
   | 14,hk,_=>exact absurd hk (by show ¬ (23≤14); omega)
   | 15,hk,_=>exact absurd hk (by show ¬ (23≤15); omega)
   | 16,hk,_=>exact absurd hk (by show ¬ (23≤16); omega)
   | 17,hk,_=>exact absurd hk (by show ¬ (23≤17); omega)
   | 18,hk,_=>exact absurd hk (by show ¬ (23≤18); omega)
   | 19,hk,_=>exact absurd hk (by show ¬ (23≤19); omega)
   | 20,hk,_=>exact absurd hk (by show ¬ (23≤20); omega)
   | 21,hk,_=>exact absurd hk (by show ¬ (23≤21); omega)
   | 22,hk,_=>exact absurd hk (by show ¬ (23≤22); omega)
   | k+24,_,hk2=>exact absurd hk2 (by show ¬ (k+24<24); omega)
  ·rintro a0 ⟨hz,g1⟩
   refine StepsRK.cons ?_ (StepsRK.cons ?_ (StepsRK.cons ?_ (StepsRK.cons ?_ (StepsRK.cons ?_ (StepsRK.cons ?_ (StepsRK.cons ?_ (StepsRK.cons ?_ (StepsRK.cons ?_ (StepsRK.cons ?_ (StepsRK.cons ?_ (StepsRK.cons ?_ (StepsRK.cons ?_ (StepsRK.cons ?_ (StepsRK.cons ?_ (StepsRK.cons ?_ (StepsRK.cons ?_ (StepsRK.cons ?_ (StepsRK.cons ?_ (StepsRK.cons ?_ (StepsRK.cons ?_ (StepsRK.cons ?_ (StepsRK.cons ?_ (StepsRK.nil)))))))))))))))))))))))
   ·intro lQ b W hI hUN hED KQ hKQ
    refine rk_plain rfl ?_
    have hg:=(hI.vot 23 (of_decide_eq_true rfl) (of_decide_eq_true rfl) rfl)
    refine wp_load_row 62 _ rfl (w.heap.size) ((hI.fr.same 1 (by decide)).trans g1) 62 #[.slice s.a1 s.n1 s.c1,.slice s.a2 s.n2 s.c2,.int .i64 x.key.1,.int .u64 x.key.2.1,.int .i64 x.key.2.2,.slice s.a3 s.n3 s.c3] (0,0) _ hg Tryz.underlying62 rfl (by kernel_rfl) ?_
    exact hKQ.out _ _ (hI.put 0 3 rfl rfl (by rw [hz]; decide) rfl hUN rfl HBB (rsB_stb s x l vb w.heap.size (w.heap.size)) (Below.refl _ _) rfl)
   ·intro lQ b W hI hUN hED KQ hKQ
    refine rk_plain rfl ?_
    have f0:aT b 3=.agg #[.slice s.a1 s.n1 s.c1,.slice s.a2 s.n2 s.c2,.int .i64 x.key.1,.int .u64 x.key.2.1,.int .i64 x.key.2.2,.slice s.a3 s.n3 s.c3]:=hI.got 0 (of_decide_eq_true rfl) (edge hED 0 (by kernel_rfl)) rfl
    refine opw_call 65 #[.tmp 3] _ _ _ rfl Tryz.func65 (by kernel_rfl) rfl #[.agg #[.slice s.a1 s.n1 s.c1,.slice s.a2 s.n2 s.c2,.int .i64 x.key.1,.int .u64 x.key.2.1,.int .i64 x.key.2.2,.slice s.a3 s.n3 s.c3]] (by simp [ev,f0]) ?_
    refine (HOW.out W hI.bel).mono ?_
    rintro r W2 ⟨rfl,hb⟩
    exact ⟨_,rfl,hKQ.out _ _ (hI.put 1 4 rfl rfl (by rw [hz]; decide) rfl hUN rfl HBB (rsB_stb s x l vb w.heap.size (w.heap.size)) hb rfl)⟩
   ·intro lQ b W hI hUN hED KQ hKQ
    refine rk_plain rfl ?_
    have f:=hI.got 1 (of_decide_eq_true rfl) (edge hED 1 (by kernel_rfl)) rfl
    exact opw_move 4 rfl (hKQ.out _ _ (hI.put 2 5 rfl rfl (by rw [hz]; decide) rfl hUN rfl HBB (rsB_stb s x l vb w.heap.size (w.heap.size)) (Below.refl _ _) f))
   ·intro lQ b W hI hUN hED KQ hKQ
    refine rk_take 2 true 5 rfl rfl (hI.got 2 (of_decide_eq_true rfl) (edge hED 2 (by kernel_rfl)) rfl) ?_
    exact opw_field 62 1 2 rfl _ ((hI.fr.same 1 (by decide)).trans g1) _ (by kernel_rfl) (hKQ.out _ _ (hI.put 3 6 rfl rfl (by rw [hz]; decide) rfl hUN rfl HBB (rsB_stb s x l vb w.heap.size (w.heap.size)) (Below.refl _ _) rfl))
   ·intro lQ b W hI hUN hED KQ hKQ
    refine rk_take 2 true 5 rfl rfl (hI.got 2 (of_decide_eq_true rfl) (edge hED 2 (by kernel_rfl)) rfl) ?_
    have f:aT b 6=.pointer (some ⟨w.heap.size,2,none⟩):=hI.got 3 (of_decide_eq_true rfl) (edge hED 3 (by kernel_rfl)) rfl
    have hg:=(hI.vot 23 (of_decide_eq_true rfl) (of_decide_eq_true rfl) rfl)
    have hc0:W.cell? ⟨w.heap.size,2,none⟩=some (.int .i64 x.key.1):=(cell_of_row _ _ 2 _ _ (0,0) hg).trans rfl
    have hc1:W.cell? ⟨w.heap.size,3,none⟩=some (.int .u64 x.key.2.1):=(cell_of_row _ _ 3 _ _ (0,0) hg).trans rfl
    have hc2:W.cell? ⟨w.heap.size,4,none⟩=some (.int .i64 x.key.2.2):=(cell_of_row _ _ 4 _ _ (0,0) hg).trans rfl
    exact opw_load1 41 6 rfl _ f _ (by simp [Instr.loadAt,go_sem,hc0,hc1,hc2]) (hKQ.out _ _ (hI.put 4 7 rfl rfl (by rw [hz]; decide) rfl hUN rfl HBB (rsB_stb s x l vb w.heap.size (w.heap.size)) (Below.refl _ _) rfl))
   ·intro lQ b W hI hUN hED KQ hKQ
    refine rk_take 2 true 5 rfl rfl (hI.got 2 (of_decide_eq_true rfl) (edge hED 2 (by kernel_rfl)) rfl) ?_
    have f0:aT b 7=.agg #[.int .i64 x.key.1,.int .u64 x.key.2.1,.int .i64 x.key.2.2]:=hI.got 4 (of_decide_eq_true rfl) (edge hED 4 (by kernel_rfl)) rfl
    refine opw_call 66 #[.tmp 7] _ _ _ rfl Tryz.func66 (by kernel_rfl) rfl #[.agg #[.int .i64 x.key.1,.int .u64 x.key.2.1,.int .i64 x.key.2.2]] (by simp [ev,f0]) ?_
    refine (HPU.out W hI.bel).mono ?_
    rintro r W2 ⟨rfl,hb⟩
    exact ⟨_,rfl,hKQ.out _ _ (hI.put 5 8 rfl rfl (by rw [hz]; decide) rfl hUN rfl HBB (rsB_stb s x l vb w.heap.size (w.heap.size)) hb rfl)⟩
   ·intro lQ b W hI hUN hED KQ hKQ
    refine rk_plain rfl ?_
    have fc:aT b 5=.bool true:=hI.got 2 (of_decide_eq_true rfl) (edge hED 2 (by kernel_rfl)) rfl
    have f:=hI.got 5 (of_decide_eq_true rfl) (edge hED 5 (by kernel_rfl)) rfl
    replace f:aT b 8=.bool false:=f
    exact opw_pick_t 5 _ _ rfl fc _ f (hKQ.out _ _ (hI.put 6 9 rfl rfl (by rw [hz]; decide) rfl hUN rfl HBB (rsB_stb s x l vb w.heap.size (w.heap.size)) (Below.refl _ _) rfl))
   ·intro lQ b W hI hUN hED KQ hKQ
    refine rk_plain rfl ?_
    have f:=hI.got 6 (of_decide_eq_true rfl) (edge hED 6 (by kernel_rfl)) rfl
    exact opw_move 9 rfl (hKQ.out _ _ (hI.put 7 10 rfl rfl (by rw [hz]; decide) rfl hUN rfl HBB (rsB_stb s x l vb w.heap.size (w.heap.size)) (Below.refl _ _) f))
   ·intro lQ b W hI hUN hED KQ hKQ
    exact rk_skip 7 true 10 (.bool false) rfl rfl (hI.got 7 (of_decide_eq_true rfl) (edge hED 7 (by kernel_rfl)) rfl) rfl (hKQ.out _ _ (hI.put 8 11 rfl rfl (by rw [hz]; decide) rfl hUN rfl HBB (rsB_stb s x l vb w.heap.size (w.heap.size)) (Below.refl _ _) rfl))
   ·intro lQ b W hI hUN hED KQ hKQ
    exact rk_skip 7 true 10 (.bool false) rfl rfl (hI.got 7 (of_decide_eq_true rfl) (edge hED 7 (by kernel_rfl)) rfl) rfl (hKQ.out _ _ (hI.put 9 12 rfl rfl (by rw [hz]; decide) rfl hUN rfl HBB (rsB_stb s x l vb w.heap.size (w.heap.size)) (Below.refl _ _) rfl))
   ·intro lQ b W hI hUN hED KQ hKQ
    exact rk_skip 7 true 10 (.bool false) rfl rfl (hI.got 7 (of_decide_eq_true rfl) (edge hED 7 (by kernel_rfl)) rfl) rfl (hKQ.out _ _ (hI.put 10 13 rfl rfl (by rw [hz]; decide) rfl hUN rfl HBB (rsB_stb s x l vb w.heap.size (w.heap.size)) (Below.refl _ _) rfl))
   ·intro lQ b W hI hUN hED KQ hKQ
    exact rk_skip 7 true 10 (.bool false) rfl rfl (hI.got 7 (of_decide_eq_true rfl) (edge hED 7 (by kernel_rfl)) rfl) rfl (hKQ.out _ _ (hI.put 11 14 rfl rfl (by rw [hz]; decide) rfl hUN rfl HBB (rsB_stb s x l vb w.heap.size (w.heap.size)) (Below.refl _ _) rfl))
   ·intro lQ b W hI hUN hED KQ hKQ
    refine rk_plain rfl ?_
    have fc:aT b 10=.bool false:=hI.got 7 (of_decide_eq_true rfl) (edge hED 7 (by kernel_rfl)) rfl
    exact opw_pick_f 10 _ _ rfl fc _ rfl (hKQ.out _ _ (hI.put 12 15 rfl rfl (by rw [hz]; decide) rfl hUN rfl HBB (rsB_stb s x l vb w.heap.size (w.heap.size)) (Below.refl _ _) rfl))
   ·intro lQ b W hI hUN hED KQ hKQ
    refine rk_plain rfl ?_
    have f:=hI.got 12 (of_decide_eq_true rfl) (edge hED 12 (by kernel_rfl)) rfl
    exact opw_move 15 rfl (hKQ.out _ _ (hI.put 13 16 rfl rfl (by rw [hz]; decide) rfl hUN rfl HBB (rsB_stb s x l vb w.heap.size (w.heap.size)) (Below.refl _ _) f))
   ·intro lQ b W hI hUN hED KQ hKQ
    exact rk_skip 13 true 16 (.bool false) rfl rfl (hI.got 13 (of_decide_eq_true rfl) (edge hED 13 (by kernel_rfl)) rfl) rfl (hKQ.out _ _ (hI.put 14 17 rfl rfl (by rw [hz]; decide) rfl hUN rfl HBB (rsB_stb s x l vb w.heap.size (w.heap.size)) (Below.refl _ _) rfl))
   ·intro lQ b W hI hUN hED KQ hKQ
    exact rk_skip 13 true 16 (.bool false) rfl rfl (hI.got 13 (of_decide_eq_true rfl) (edge hED 13 (by kernel_rfl)) rfl) rfl (hKQ.out _ _ (hI.put 15 18 rfl rfl (by rw [hz]; decide) rfl hUN rfl HBB (rsB_stb s x l vb w.heap.size (w.heap.size)) (Below.refl _ _) rfl))
   ·intro lQ b W hI hUN hED KQ hKQ
    exact rk_skip 13 true 16 (.bool false) rfl rfl (hI.got 13 (of_decide_eq_true rfl) (edge hED 13 (by kernel_rfl)) rfl) rfl (hKQ.out _ _ (hI.put 16 19 rfl rfl (by rw [hz]; decide) rfl hUN rfl HBB (rsB_stb s x l vb w.heap.size (w.heap.size)) (Below.refl _ _) rfl))
   ·intro lQ b W hI hUN hED KQ hKQ
    exact rk_skip 13 true 16 (.bool false) rfl rfl (hI.got 13 (of_decide_eq_true rfl) (edge hED 13 (by kernel_rfl)) rfl) rfl (hKQ.out _ _ (hI.put 17 20 rfl rfl (by rw [hz]; decide) rfl hUN rfl HBB (rsB_stb s x l vb w.heap.size (w.heap.size)) (Below.refl _ _) rfl))
   ·intro lQ b W hI hUN hED KQ hKQ
    exact rk_skip 13 true 16 (.bool false) rfl rfl (hI.got 13 (of_decide_eq_true rfl) (edge hED 13 (by kernel_rfl)) rfl) rfl (hKQ.out _ _ (hI.put 18 21 rfl rfl (by rw [hz]; decide) rfl hUN rfl HBB (rsB_stb s x l vb w.heap.size (w.heap.size)) (Below.refl _ _) rfl))
   ·intro lQ b W hI hUN hED KQ hKQ
    exact rk_skip 13 true 16 (.bool false) rfl rfl (hI.got 13 (of_decide_eq_true rfl) (edge hED 13 (by kernel_rfl)) rfl) rfl (hKQ.out _ _ (hI.put 19 22 rfl rfl (by rw [hz]; decide) rfl hUN rfl HBB (rsB_stb s x l vb w.heap.size (w.heap.size)) (Below.refl _ _) rfl))
   ·intro lQ b W hI hUN hED KQ hKQ
    exact rk_skip 13 true 16 (.bool false) rfl rfl (hI.got 13 (of_decide_eq_true rfl) (edge hED 13 (by kernel_rfl)) rfl) rfl (hKQ.out _ _ (hI.put 20 23 rfl rfl (by rw [hz]; decide) rfl hUN rfl HBB (rsB_stb s x l vb w.heap.size (w.heap.size)) (Below.refl _ _) rfl))
   ·intro lQ b W hI hUN hED KQ hKQ
    refine rk_plain rfl ?_
    have fc:aT b 16=.bool false:=hI.got 13 (of_decide_eq_true rfl) (edge hED 13 (by kernel_rfl)) rfl
    exact opw_pick_f 16 _ _ rfl fc _ rfl (hKQ.out _ _ (hI.put 21 24 rfl rfl (by rw [hz]; decide) rfl hUN rfl HBB (rsB_stb s x l vb w.heap.size (w.heap.size)) (Below.refl _ _) rfl))
   ·intro lQ b W hI hUN hED KQ hKQ
    refine rk_plain rfl ?_
    have f:=hI.got 21 (of_decide_eq_true rfl) (edge hED 21 (by kernel_rfl)) rfl
    exact opw_assign 24 rfl (hKQ.out _ _ (hI.put 22 2 rfl rfl (by rw [hz]; decide) rfl hUN rfl HBB (rsB_stb s x l vb w.heap.size (w.heap.size)) (Below.refl _ _) f))
  ·intro b W hf hb F
   have e2:aT b 2=.bool false:=F 22 (of_decide_eq_true rfl) rfl
   rw [hf.eq]
   simp only [puts,Act.put,List.setIfInBounds_toArray,List.set_cons_zero,List.set_cons_succ,e2]
   clear hf F e2
   generalize aT b=AT
   clear b
   go_wp2
   go_ret
   exact says_f HN.out (hB0.trans hb)
 have HPU:Hid (∀ W,Below w.heap.size w0 W→Calls Tryz.prog 66 #[.agg #[.int .i64 x.key.1,.int .u64 x.key.2.1,.int .i64 x.key.2.2]] W fun e w'=>e=.returned (.bool true)∧Below W.heap.size W w'):=fun W hW=>(l8PubOk_any x.key.1 x.key.2.1 x.key.2.2 W hu).mono (fun e w' q=>by rw [decide_eq_true hp] at q; exact q)
 by_cases h5:s.n3≤500
 case neg =>
  have HN:Hid (¬ rqP x):=fun q=>h5 (by have:=q.2.2.1; omega)
  have HLE:Hid (decide ((s.n3:Int)≤500)=false):=decide_eq_false (by omega)
  obtain ⟨l,hl⟩:∃ l:List Int,l = []:=⟨_,rfl⟩
  obtain ⟨vb,hv⟩:∃ vb:Bool,vb=false:=⟨_,rfl⟩
  clear how ho hp h5 h hz ht hu hzn hln hl hv
  go_enter Tryz.func25,Tryz.ntmps25
  go_upto_region 1 with fail
  rw [← HW.out]
  clear HW
  refine wp_region_rk (rsC s x l vb w.heap.size (w.heap.size)) [2,3,4,5,6,7,8,9,10,11,12,13,14,15,16,17,18,19,20,21,22,23,24] (w.heap.size) (fun a0=>a0.tmps.size=25∧aT a0 1=.pointer (some ⟨w.heap.size,0,none⟩)) (by kernel_rfl) rfl (by kernel_rfl) rfl ⟨rfl,rfl⟩ (rsC_stb s x l vb w.heap.size (w.heap.size)) ?_ ?_ ?_
  ·intro k hk hk2
   match k,hk,hk2 with
   | 23,_,_=>exact L0.out
   | 0,hk,_=>exact absurd hk (by show ¬ (23≤0); omega)
   | 1,hk,_=>exact absurd hk (by show ¬ (23≤1); omega)
   | 2,hk,_=>exact absurd hk (by show ¬ (23≤2); omega)
   | 3,hk,_=>exact absurd hk (by show ¬ (23≤3); omega)
   | 4,hk,_=>exact absurd hk (by show ¬ (23≤4); omega)
   | 5,hk,_=>exact absurd hk (by show ¬ (23≤5); omega)
   | 6,hk,_=>exact absurd hk (by show ¬ (23≤6); omega)
   | 7,hk,_=>exact absurd hk (by show ¬ (23≤7); omega)
   | 8,hk,_=>exact absurd hk (by show ¬ (23≤8); omega)
   | 9,hk,_=>exact absurd hk (by show ¬ (23≤9); omega)
   | 10,hk,_=>exact absurd hk (by show ¬ (23≤10); omega)
   | 11,hk,_=>exact absurd hk (by show ¬ (23≤11); omega)
   | 12,hk,_=>exact absurd hk (by show ¬ (23≤12); omega)
   | 13,hk,_=>exact absurd hk (by show ¬ (23≤13); omega)
   | 14,hk,_=>exact absurd hk (by show ¬ (23≤14); omega)
   | 15,hk,_=>exact absurd hk (by show ¬ (23≤15); omega)
   | 16,hk,_=>exact absurd hk (by show ¬ (23≤16); omega)
   | 17,hk,_=>exact absurd hk (by show ¬ (23≤17); omega)
   | 18,hk,_=>exact absurd hk (by show ¬ (23≤18); omega)
   | 19,hk,_=>exact absurd hk (by show ¬ (23≤19); omega)
   | 20,hk,_=>exact absurd hk (by show ¬ (23≤20); omega)
   | 21,hk,_=>exact absurd hk (by show ¬ (23≤21); omega)
   | 22,hk,_=>exact absurd hk (by show ¬ (23≤22); omega)
   | k+24,_,hk2=>exact absurd hk2 (by show ¬ (k+24<24); omega)
  ·rintro a0 ⟨hz,g1⟩
   refine StepsRK.cons ?_ (StepsRK.cons ?_ (StepsRK.cons ?_ (StepsRK.cons ?_ (StepsRK.cons ?_ (StepsRK.cons ?_ (StepsRK.cons ?_ (StepsRK.cons ?_ (StepsRK.cons ?_ (StepsRK.cons ?_ (StepsRK.cons ?_ (StepsRK.cons ?_ (StepsRK.cons ?_ (StepsRK.cons ?_ (StepsRK.cons ?_ (StepsRK.cons ?_ (StepsRK.cons ?_ (StepsRK.cons ?_ (StepsRK.cons ?_ (StepsRK.cons ?_ (StepsRK.cons ?_ (StepsRK.cons ?_ (StepsRK.cons ?_ (StepsRK.nil)))))))))))))))))))))))
   ·intro lQ b W hI hUN hED KQ hKQ
    refine rk_plain rfl ?_
    have hg:=(hI.vot 23 (of_decide_eq_true rfl) (of_decide_eq_true rfl) rfl)
    refine wp_load_row 62 _ rfl (w.heap.size) ((hI.fr.same 1 (by decide)).trans g1) 62 #[.slice s.a1 s.n1 s.c1,.slice s.a2 s.n2 s.c2,.int .i64 x.key.1,.int .u64 x.key.2.1,.int .i64 x.key.2.2,.slice s.a3 s.n3 s.c3] (0,0) _ hg Tryz.underlying62 rfl (by kernel_rfl) ?_
    exact hKQ.out _ _ (hI.put 0 3 rfl rfl (by rw [hz]; decide) rfl hUN rfl HBB (rsC_stb s x l vb w.heap.size (w.heap.size)) (Below.refl _ _) rfl)
   ·intro lQ b W hI hUN hED KQ hKQ
    refine rk_plain rfl ?_
    have f0:aT b 3=.agg #[.slice s.a1 s.n1 s.c1,.slice s.a2 s.n2 s.c2,.int .i64 x.key.1,.int .u64 x.key.2.1,.int .i64 x.key.2.2,.slice s.a3 s.n3 s.c3]:=hI.got 0 (of_decide_eq_true rfl) (edge hED 0 (by kernel_rfl)) rfl
    refine opw_call 65 #[.tmp 3] _ _ _ rfl Tryz.func65 (by kernel_rfl) rfl #[.agg #[.slice s.a1 s.n1 s.c1,.slice s.a2 s.n2 s.c2,.int .i64 x.key.1,.int .u64 x.key.2.1,.int .i64 x.key.2.2,.slice s.a3 s.n3 s.c3]] (by simp [ev,f0]) ?_
    refine (HOW.out W hI.bel).mono ?_
    rintro r W2 ⟨rfl,hb⟩
    exact ⟨_,rfl,hKQ.out _ _ (hI.put 1 4 rfl rfl (by rw [hz]; decide) rfl hUN rfl HBB (rsC_stb s x l vb w.heap.size (w.heap.size)) hb rfl)⟩
   ·intro lQ b W hI hUN hED KQ hKQ
    refine rk_plain rfl ?_
    have f:=hI.got 1 (of_decide_eq_true rfl) (edge hED 1 (by kernel_rfl)) rfl
    exact opw_move 4 rfl (hKQ.out _ _ (hI.put 2 5 rfl rfl (by rw [hz]; decide) rfl hUN rfl HBB (rsC_stb s x l vb w.heap.size (w.heap.size)) (Below.refl _ _) f))
   ·intro lQ b W hI hUN hED KQ hKQ
    refine rk_take 2 true 5 rfl rfl (hI.got 2 (of_decide_eq_true rfl) (edge hED 2 (by kernel_rfl)) rfl) ?_
    exact opw_field 62 1 2 rfl _ ((hI.fr.same 1 (by decide)).trans g1) _ (by kernel_rfl) (hKQ.out _ _ (hI.put 3 6 rfl rfl (by rw [hz]; decide) rfl hUN rfl HBB (rsC_stb s x l vb w.heap.size (w.heap.size)) (Below.refl _ _) rfl))
   ·intro lQ b W hI hUN hED KQ hKQ
    refine rk_take 2 true 5 rfl rfl (hI.got 2 (of_decide_eq_true rfl) (edge hED 2 (by kernel_rfl)) rfl) ?_
    have f:aT b 6=.pointer (some ⟨w.heap.size,2,none⟩):=hI.got 3 (of_decide_eq_true rfl) (edge hED 3 (by kernel_rfl)) rfl
    have hg:=(hI.vot 23 (of_decide_eq_true rfl) (of_decide_eq_true rfl) rfl)
    have hc0:W.cell? ⟨w.heap.size,2,none⟩=some (.int .i64 x.key.1):=(cell_of_row _ _ 2 _ _ (0,0) hg).trans rfl
    have hc1:W.cell? ⟨w.heap.size,3,none⟩=some (.int .u64 x.key.2.1):=(cell_of_row _ _ 3 _ _ (0,0) hg).trans rfl
    have hc2:W.cell? ⟨w.heap.size,4,none⟩=some (.int .i64 x.key.2.2):=(cell_of_row _ _ 4 _ _ (0,0) hg).trans rfl
    exact opw_load1 41 6 rfl _ f _ (by simp [Instr.loadAt,go_sem,hc0,hc1,hc2]) (hKQ.out _ _ (hI.put 4 7 rfl rfl (by rw [hz]; decide) rfl hUN rfl HBB (rsC_stb s x l vb w.heap.size (w.heap.size)) (Below.refl _ _) rfl))
   ·intro lQ b W hI hUN hED KQ hKQ
    refine rk_take 2 true 5 rfl rfl (hI.got 2 (of_decide_eq_true rfl) (edge hED 2 (by kernel_rfl)) rfl) ?_
    have f0:aT b 7=.agg #[.int .i64 x.key.1,.int .u64 x.key.2.1,.int .i64 x.key.2.2]:=hI.got 4 (of_decide_eq_true rfl) (edge hED 4 (by kernel_rfl)) rfl
    refine opw_call 66 #[.tmp 7] _ _ _ rfl Tryz.func66 (by kernel_rfl) rfl #[.agg #[.int .i64 x.key.1,.int .u64 x.key.2.1,.int .i64 x.key.2.2]] (by simp [ev,f0]) ?_
    refine (HPU.out W hI.bel).mono ?_
    rintro r W2 ⟨rfl,hb⟩
    exact ⟨_,rfl,hKQ.out _ _ (hI.put 5 8 rfl rfl (by rw [hz]; decide) rfl hUN rfl HBB (rsC_stb s x l vb w.heap.size (w.heap.size)) hb rfl)⟩
   ·intro lQ b W hI hUN hED KQ hKQ
    refine rk_plain rfl ?_
    have fc:aT b 5=.bool true:=hI.got 2 (of_decide_eq_true rfl) (edge hED 2 (by kernel_rfl)) rfl
    have f:=hI.got 5 (of_decide_eq_true rfl) (edge hED 5 (by kernel_rfl)) rfl
    replace f:aT b 8=.bool true:=f
    exact opw_pick_t 5 _ _ rfl fc _ f (hKQ.out _ _ (hI.put 6 9 rfl rfl (by rw [hz]; decide) rfl hUN rfl HBB (rsC_stb s x l vb w.heap.size (w.heap.size)) (Below.refl _ _) rfl))
   ·intro lQ b W hI hUN hED KQ hKQ
    refine rk_plain rfl ?_
    have f:=hI.got 6 (of_decide_eq_true rfl) (edge hED 6 (by kernel_rfl)) rfl
    exact opw_move 9 rfl (hKQ.out _ _ (hI.put 7 10 rfl rfl (by rw [hz]; decide) rfl hUN rfl HBB (rsC_stb s x l vb w.heap.size (w.heap.size)) (Below.refl _ _) f))
   ·intro lQ b W hI hUN hED KQ hKQ
    refine rk_take 7 true 10 rfl rfl (hI.got 7 (of_decide_eq_true rfl) (edge hED 7 (by kernel_rfl)) rfl) ?_
    exact opw_field 62 1 3 rfl _ ((hI.fr.same 1 (by decide)).trans g1) _ (by kernel_rfl) (hKQ.out _ _ (hI.put 8 11 rfl rfl (by rw [hz]; decide) rfl hUN rfl HBB (rsC_stb s x l vb w.heap.size (w.heap.size)) (Below.refl _ _) rfl))
   ·intro lQ b W hI hUN hED KQ hKQ
    refine rk_take 7 true 10 rfl rfl (hI.got 7 (of_decide_eq_true rfl) (edge hED 7 (by kernel_rfl)) rfl) ?_
    have f:=hI.got 8 (of_decide_eq_true rfl) (edge hED 8 (by kernel_rfl)) rfl
    have hg:=(hI.vot 23 (of_decide_eq_true rfl) (of_decide_eq_true rfl) rfl)
    have hc:W.cell? ⟨w.heap.size,5,none⟩=some (.slice s.a3 s.n3 s.c3):=(cell_of_row _ _ 5 _ _ (0,0) hg).trans rfl
    exact opw_load1 32 11 rfl _ f _ (by simp [Instr.loadAt,go_sem,hc]) (hKQ.out _ _ (hI.put 9 12 rfl rfl (by rw [hz]; decide) rfl hUN rfl HBB (rsC_stb s x l vb w.heap.size (w.heap.size)) (Below.refl _ _) rfl))
   ·intro lQ b W hI hUN hED KQ hKQ
    refine rk_take 7 true 10 rfl rfl (hI.got 7 (of_decide_eq_true rfl) (edge hED 7 (by kernel_rfl)) rfl) ?_
    have f:aT b 12=.slice s.a3 s.n3 s.c3:=hI.got 9 (of_decide_eq_true rfl) (edge hED 9 (by kernel_rfl)) rfl
    exact opw_lenQ 12 _ _ rfl Tryz.underlying32 _ _ _ f (hKQ.out _ _ (hI.put 10 13 rfl rfl (by rw [hz]; decide) rfl hUN rfl HBB (rsC_stb s x l vb w.heap.size (w.heap.size)) (Below.refl _ _) rfl))
   ·intro lQ b W hI hUN hED KQ hKQ
    refine rk_take 7 true 10 rfl rfl (hI.got 7 (of_decide_eq_true rfl) (edge hED 7 (by kernel_rfl)) rfl) ?_
    have f:aT b 13=.int .i64 s.n3:=hI.got 10 (of_decide_eq_true rfl) (edge hED 10 (by kernel_rfl)) rfl
    refine opw_leqQ _ _ 13 500 rfl _ f ?_
    rw [HLE.out]
    exact hKQ.out _ _ (hI.put 11 14 rfl rfl (by rw [hz]; decide) rfl hUN rfl HBB (rsC_stb s x l vb w.heap.size (w.heap.size)) (Below.refl _ _) rfl)
   ·intro lQ b W hI hUN hED KQ hKQ
    refine rk_plain rfl ?_
    have fc:aT b 10=.bool true:=hI.got 7 (of_decide_eq_true rfl) (edge hED 7 (by kernel_rfl)) rfl
    have f:=hI.got 11 (of_decide_eq_true rfl) (edge hED 11 (by kernel_rfl)) rfl
    replace f:aT b 14=.bool false:=f
    exact opw_pick_t 10 _ _ rfl fc _ f (hKQ.out _ _ (hI.put 12 15 rfl rfl (by rw [hz]; decide) rfl hUN rfl HBB (rsC_stb s x l vb w.heap.size (w.heap.size)) (Below.refl _ _) rfl))
   ·intro lQ b W hI hUN hED KQ hKQ
    refine rk_plain rfl ?_
    have f:=hI.got 12 (of_decide_eq_true rfl) (edge hED 12 (by kernel_rfl)) rfl
    exact opw_move 15 rfl (hKQ.out _ _ (hI.put 13 16 rfl rfl (by rw [hz]; decide) rfl hUN rfl HBB (rsC_stb s x l vb w.heap.size (w.heap.size)) (Below.refl _ _) f))
   ·intro lQ b W hI hUN hED KQ hKQ
    exact rk_skip 13 true 16 (.bool false) rfl rfl (hI.got 13 (of_decide_eq_true rfl) (edge hED 13 (by kernel_rfl)) rfl) rfl (hKQ.out _ _ (hI.put 14 17 rfl rfl (by rw [hz]; decide) rfl hUN rfl HBB (rsC_stb s x l vb w.heap.size (w.heap.size)) (Below.refl _ _) rfl))
   ·intro lQ b W hI hUN hED KQ hKQ
    exact rk_skip 13 true 16 (.bool false) rfl rfl (hI.got 13 (of_decide_eq_true rfl) (edge hED 13 (by kernel_rfl)) rfl) rfl (hKQ.out _ _ (hI.put 15 18 rfl rfl (by rw [hz]; decide) rfl hUN rfl HBB (rsC_stb s x l vb w.heap.size (w.heap.size)) (Below.refl _ _) rfl))
   ·intro lQ b W hI hUN hED KQ hKQ
    exact rk_skip 13 true 16 (.bool false) rfl rfl (hI.got 13 (of_decide_eq_true rfl) (edge hED 13 (by kernel_rfl)) rfl) rfl (hKQ.out _ _ (hI.put 16 19 rfl rfl (by rw [hz]; decide) rfl hUN rfl HBB (rsC_stb s x l vb w.heap.size (w.heap.size)) (Below.refl _ _) rfl))
   ·intro lQ b W hI hUN hED KQ hKQ
    exact rk_skip 13 true 16 (.bool false) rfl rfl (hI.got 13 (of_decide_eq_true rfl) (edge hED 13 (by kernel_rfl)) rfl) rfl (hKQ.out _ _ (hI.put 17 20 rfl rfl (by rw [hz]; decide) rfl hUN rfl HBB (rsC_stb s x l vb w.heap.size (w.heap.size)) (Below.refl _ _) rfl))
   ·intro lQ b W hI hUN hED KQ hKQ
    exact rk_skip 13 true 16 (.bool false) rfl rfl (hI.got 13 (of_decide_eq_true rfl) (edge hED 13 (by kernel_rfl)) rfl) rfl (hKQ.out _ _ (hI.put 18 21 rfl rfl (by rw [hz]; decide) rfl hUN rfl HBB (rsC_stb s x l vb w.heap.size (w.heap.size)) (Below.refl _ _) rfl))
   ·intro lQ b W hI hUN hED KQ hKQ
    exact rk_skip 13 true 16 (.bool false) rfl rfl (hI.got 13 (of_decide_eq_true rfl) (edge hED 13 (by kernel_rfl)) rfl) rfl (hKQ.out _ _ (hI.put 19 22 rfl rfl (by rw [hz]; decide) rfl hUN rfl HBB (rsC_stb s x l vb w.heap.size (w.heap.size)) (Below.refl _ _) rfl))
   ·intro lQ b W hI hUN hED KQ hKQ
    exact rk_skip 13 true 16 (.bool false) rfl rfl (hI.got 13 (of_decide_eq_true rfl) (edge hED 13 (by kernel_rfl)) rfl) rfl (hKQ.out _ _ (hI.put 20 23 rfl rfl (by rw [hz]; decide) rfl hUN rfl HBB (rsC_stb s x l vb w.heap.size (w.heap.size)) (Below.refl _ _) rfl))
   ·intro lQ b W hI hUN hED KQ hKQ
    refine rk_plain rfl ?_
    have fc:aT b 16=.bool false:=hI.got 13 (of_decide_eq_true rfl) (edge hED 13 (by kernel_rfl)) rfl
    exact opw_pick_f 16 _ _ rfl fc _ rfl (hKQ.out _ _ (hI.put 21 24 rfl rfl (by rw [hz]; decide) rfl hUN rfl HBB (rsC_stb s x l vb w.heap.size (w.heap.size)) (Below.refl _ _) rfl))
   ·intro lQ b W hI hUN hED KQ hKQ
    refine rk_plain rfl ?_
    have f:=hI.got 21 (of_decide_eq_true rfl) (edge hED 21 (by kernel_rfl)) rfl
    exact opw_assign 24 rfl (hKQ.out _ _ (hI.put 22 2 rfl rfl (by rw [hz]; decide) rfl hUN rfl HBB (rsC_stb s x l vb w.heap.size (w.heap.size)) (Below.refl _ _) f))
  ·intro b W hf hb F
   have e2:aT b 2=.bool false:=F 22 (of_decide_eq_true rfl) rfl
   rw [hf.eq]
   simp only [puts,Act.put,List.setIfInBounds_toArray,List.set_cons_zero,List.set_cons_succ,e2]
   clear hf F e2
   generalize aT b=AT
   clear b
   go_wp2
   go_ret
   exact says_f HN.out (hB0.trans hb)
 have HLE:Hid (decide ((s.n3:Int)≤500)=true):=decide_eq_true (by omega)
 have hrb:RqB x:=⟨ho.1,gens_b ho.2.2,hp⟩
 have hen:=rqBody_enc hrb
 obtain ⟨l,hl⟩:∃ l,l=rqBody x:=⟨_,rfl⟩
 rw [← hl] at hen
 obtain ⟨vb,hv⟩:∃ vb,vb=decide (anyP x.key.1 x.key.2.1 x.key.2.2 l x.sig):=⟨_,rfl⟩
 have HBD:Hid (∀ W,Below w.heap.size w0 W→Calls Tryz.prog 67 #[.agg #[.slice s.a1 s.n1 s.c1,.slice s.a2 s.n2 s.c2,.int .i64 x.key.1,.int .u64 x.key.2.1,.int .i64 x.key.2.2,.slice s.a3 s.n3 s.c3]] W fun e w'=>∃ a' c',e=.returned (.slice a' l.length c')∧Own W.heap.size w' a' l.length c' l∧Below W.heap.size W w'):=fun W hW=>l9ReqBody_any s x W (h.kept (hB0.trans hW)) hu hrb l hen.1
 have HVF:Hid (∀ W a4 c4,Below w.heap.size w0 W→Own w.heap.size W a4 l.length c4 l→Calls Tryz.prog 63 #[.agg #[.int .i64 x.key.1,.int .u64 x.key.2.1,.int .i64 x.key.2.2],.slice a4 l.length c4,.slice s.a3 s.n3 s.c3] W fun e w'=>e=.returned (.bool vb)∧Below W.heap.size W w'):=fun W a4 c4 hW ho4=>by
  rw [hv]
  exact specVerifyAny_any x.key.1 x.key.2.1 x.key.2.2 a4 l.length c4 l s.a3 s.n3 s.c3 x.sig W hu ho4.toRow (by omega) ho4.nil (h.r3.kept (hB0.trans hW)) (by omega) (by have:=ht.2.2; omega)
 have HVB:Hid (vb=true↔rqP x):=by
  show vb=true↔rqP x
  rw [hv,decide_eq_true_eq,hl]
  exact ⟨fun q=>⟨ho,hp,by omega,q⟩,fun q=>q.2.2.2⟩
 clear how ho hp h5 h hz ht hu hzn hln hl hv hrb hen
 go_enter Tryz.func25,Tryz.ntmps25
 go_upto_region 1 with fail
 rw [← HW.out]
 clear HW
 refine wp_region_rk (rsD s x l vb w.heap.size (w.heap.size)) [2,3,4,5,6,7,8,9,10,11,12,13,14,15,16,17,18,19,20,21,22,23,24] (w.heap.size) (fun a0=>a0.tmps.size=25∧aT a0 1=.pointer (some ⟨w.heap.size,0,none⟩)) (by kernel_rfl) rfl (by kernel_rfl) rfl ⟨rfl,rfl⟩ (rsD_stb s x l vb w.heap.size (w.heap.size)) ?_ ?_ ?_
 ·intro k hk hk2
  match k,hk,hk2 with
  | 23,_,_=>exact L0.out
  | 0,hk,_=>exact absurd hk (by show ¬ (23≤0); omega)
  | 1,hk,_=>exact absurd hk (by show ¬ (23≤1); omega)
  | 2,hk,_=>exact absurd hk (by show ¬ (23≤2); omega)
  | 3,hk,_=>exact absurd hk (by show ¬ (23≤3); omega)
  | 4,hk,_=>exact absurd hk (by show ¬ (23≤4); omega)
  | 5,hk,_=>exact absurd hk (by show ¬ (23≤5); omega)
  | 6,hk,_=>exact absurd hk (by show ¬ (23≤6); omega)
  | 7,hk,_=>exact absurd hk (by show ¬ (23≤7); omega)
  | 8,hk,_=>exact absurd hk (by show ¬ (23≤8); omega)
  | 9,hk,_=>exact absurd hk (by show ¬ (23≤9); omega)
  | 10,hk,_=>exact absurd hk (by show ¬ (23≤10); omega)
  | 11,hk,_=>exact absurd hk (by show ¬ (23≤11); omega)
  | 12,hk,_=>exact absurd hk (by show ¬ (23≤12); omega)
  | 13,hk,_=>exact absurd hk (by show ¬ (23≤13); omega)
  | 14,hk,_=>exact absurd hk (by show ¬ (23≤14); omega)
  | 15,hk,_=>exact absurd hk (by show ¬ (23≤15); omega)
  | 16,hk,_=>exact absurd hk (by show ¬ (23≤16); omega)
  | 17,hk,_=>exact absurd hk (by show ¬ (23≤17); omega)
  | 18,hk,_=>exact absurd hk (by show ¬ (23≤18); omega)
  | 19,hk,_=>exact absurd hk (by show ¬ (23≤19); omega)
  | 20,hk,_=>exact absurd hk (by show ¬ (23≤20); omega)
  | 21,hk,_=>exact absurd hk (by show ¬ (23≤21); omega)
  | 22,hk,_=>exact absurd hk (by show ¬ (23≤22); omega)
  | k+24,_,hk2=>exact absurd hk2 (by show ¬ (k+24<24); omega)
 ·rintro a0 ⟨hz,g1⟩
  refine StepsRK.cons ?_ (StepsRK.cons ?_ (StepsRK.cons ?_ (StepsRK.cons ?_ (StepsRK.cons ?_ (StepsRK.cons ?_ (StepsRK.cons ?_ (StepsRK.cons ?_ (StepsRK.cons ?_ (StepsRK.cons ?_ (StepsRK.cons ?_ (StepsRK.cons ?_ (StepsRK.cons ?_ (StepsRK.cons ?_ (StepsRK.cons ?_ (StepsRK.cons ?_ (StepsRK.cons ?_ (StepsRK.cons ?_ (StepsRK.cons ?_ (StepsRK.cons ?_ (StepsRK.cons ?_ (StepsRK.cons ?_ (StepsRK.cons ?_ (StepsRK.nil)))))))))))))))))))))))
  ·intro lQ b W hI hUN hED KQ hKQ
   refine rk_plain rfl ?_
   have hg:=(hI.vot 23 (of_decide_eq_true rfl) (of_decide_eq_true rfl) rfl)
   refine wp_load_row 62 _ rfl (w.heap.size) ((hI.fr.same 1 (by decide)).trans g1) 62 #[.slice s.a1 s.n1 s.c1,.slice s.a2 s.n2 s.c2,.int .i64 x.key.1,.int .u64 x.key.2.1,.int .i64 x.key.2.2,.slice s.a3 s.n3 s.c3] (0,0) _ hg Tryz.underlying62 rfl (by kernel_rfl) ?_
   exact hKQ.out _ _ (hI.put 0 3 rfl rfl (by rw [hz]; decide) rfl hUN rfl HBB (rsD_stb s x l vb w.heap.size (w.heap.size)) (Below.refl _ _) rfl)
  ·intro lQ b W hI hUN hED KQ hKQ
   refine rk_plain rfl ?_
   have f0:aT b 3=.agg #[.slice s.a1 s.n1 s.c1,.slice s.a2 s.n2 s.c2,.int .i64 x.key.1,.int .u64 x.key.2.1,.int .i64 x.key.2.2,.slice s.a3 s.n3 s.c3]:=hI.got 0 (of_decide_eq_true rfl) (edge hED 0 (by kernel_rfl)) rfl
   refine opw_call 65 #[.tmp 3] _ _ _ rfl Tryz.func65 (by kernel_rfl) rfl #[.agg #[.slice s.a1 s.n1 s.c1,.slice s.a2 s.n2 s.c2,.int .i64 x.key.1,.int .u64 x.key.2.1,.int .i64 x.key.2.2,.slice s.a3 s.n3 s.c3]] (by simp [ev,f0]) ?_
   refine (HOW.out W hI.bel).mono ?_
   rintro r W2 ⟨rfl,hb⟩
   exact ⟨_,rfl,hKQ.out _ _ (hI.put 1 4 rfl rfl (by rw [hz]; decide) rfl hUN rfl HBB (rsD_stb s x l vb w.heap.size (w.heap.size)) hb rfl)⟩
  ·intro lQ b W hI hUN hED KQ hKQ
   refine rk_plain rfl ?_
   have f:=hI.got 1 (of_decide_eq_true rfl) (edge hED 1 (by kernel_rfl)) rfl
   exact opw_move 4 rfl (hKQ.out _ _ (hI.put 2 5 rfl rfl (by rw [hz]; decide) rfl hUN rfl HBB (rsD_stb s x l vb w.heap.size (w.heap.size)) (Below.refl _ _) f))
  ·intro lQ b W hI hUN hED KQ hKQ
   refine rk_take 2 true 5 rfl rfl (hI.got 2 (of_decide_eq_true rfl) (edge hED 2 (by kernel_rfl)) rfl) ?_
   exact opw_field 62 1 2 rfl _ ((hI.fr.same 1 (by decide)).trans g1) _ (by kernel_rfl) (hKQ.out _ _ (hI.put 3 6 rfl rfl (by rw [hz]; decide) rfl hUN rfl HBB (rsD_stb s x l vb w.heap.size (w.heap.size)) (Below.refl _ _) rfl))
  ·intro lQ b W hI hUN hED KQ hKQ
   refine rk_take 2 true 5 rfl rfl (hI.got 2 (of_decide_eq_true rfl) (edge hED 2 (by kernel_rfl)) rfl) ?_
   have f:aT b 6=.pointer (some ⟨w.heap.size,2,none⟩):=hI.got 3 (of_decide_eq_true rfl) (edge hED 3 (by kernel_rfl)) rfl
   have hg:=(hI.vot 23 (of_decide_eq_true rfl) (of_decide_eq_true rfl) rfl)
   have hc0:W.cell? ⟨w.heap.size,2,none⟩=some (.int .i64 x.key.1):=(cell_of_row _ _ 2 _ _ (0,0) hg).trans rfl
   have hc1:W.cell? ⟨w.heap.size,3,none⟩=some (.int .u64 x.key.2.1):=(cell_of_row _ _ 3 _ _ (0,0) hg).trans rfl
   have hc2:W.cell? ⟨w.heap.size,4,none⟩=some (.int .i64 x.key.2.2):=(cell_of_row _ _ 4 _ _ (0,0) hg).trans rfl
   exact opw_load1 41 6 rfl _ f _ (by simp [Instr.loadAt,go_sem,hc0,hc1,hc2]) (hKQ.out _ _ (hI.put 4 7 rfl rfl (by rw [hz]; decide) rfl hUN rfl HBB (rsD_stb s x l vb w.heap.size (w.heap.size)) (Below.refl _ _) rfl))
  ·intro lQ b W hI hUN hED KQ hKQ
   refine rk_take 2 true 5 rfl rfl (hI.got 2 (of_decide_eq_true rfl) (edge hED 2 (by kernel_rfl)) rfl) ?_
   have f0:aT b 7=.agg #[.int .i64 x.key.1,.int .u64 x.key.2.1,.int .i64 x.key.2.2]:=hI.got 4 (of_decide_eq_true rfl) (edge hED 4 (by kernel_rfl)) rfl
   refine opw_call 66 #[.tmp 7] _ _ _ rfl Tryz.func66 (by kernel_rfl) rfl #[.agg #[.int .i64 x.key.1,.int .u64 x.key.2.1,.int .i64 x.key.2.2]] (by simp [ev,f0]) ?_
   refine (HPU.out W hI.bel).mono ?_
   rintro r W2 ⟨rfl,hb⟩
   exact ⟨_,rfl,hKQ.out _ _ (hI.put 5 8 rfl rfl (by rw [hz]; decide) rfl hUN rfl HBB (rsD_stb s x l vb w.heap.size (w.heap.size)) hb rfl)⟩
  ·intro lQ b W hI hUN hED KQ hKQ
   refine rk_plain rfl ?_
   have fc:aT b 5=.bool true:=hI.got 2 (of_decide_eq_true rfl) (edge hED 2 (by kernel_rfl)) rfl
   have f:=hI.got 5 (of_decide_eq_true rfl) (edge hED 5 (by kernel_rfl)) rfl
   replace f:aT b 8=.bool true:=f
   exact opw_pick_t 5 _ _ rfl fc _ f (hKQ.out _ _ (hI.put 6 9 rfl rfl (by rw [hz]; decide) rfl hUN rfl HBB (rsD_stb s x l vb w.heap.size (w.heap.size)) (Below.refl _ _) rfl))
  ·intro lQ b W hI hUN hED KQ hKQ
   refine rk_plain rfl ?_
   have f:=hI.got 6 (of_decide_eq_true rfl) (edge hED 6 (by kernel_rfl)) rfl
   exact opw_move 9 rfl (hKQ.out _ _ (hI.put 7 10 rfl rfl (by rw [hz]; decide) rfl hUN rfl HBB (rsD_stb s x l vb w.heap.size (w.heap.size)) (Below.refl _ _) f))
  ·intro lQ b W hI hUN hED KQ hKQ
   refine rk_take 7 true 10 rfl rfl (hI.got 7 (of_decide_eq_true rfl) (edge hED 7 (by kernel_rfl)) rfl) ?_
   exact opw_field 62 1 3 rfl _ ((hI.fr.same 1 (by decide)).trans g1) _ (by kernel_rfl) (hKQ.out _ _ (hI.put 8 11 rfl rfl (by rw [hz]; decide) rfl hUN rfl HBB (rsD_stb s x l vb w.heap.size (w.heap.size)) (Below.refl _ _) rfl))
  ·intro lQ b W hI hUN hED KQ hKQ
   refine rk_take 7 true 10 rfl rfl (hI.got 7 (of_decide_eq_true rfl) (edge hED 7 (by kernel_rfl)) rfl) ?_
   have f:=hI.got 8 (of_decide_eq_true rfl) (edge hED 8 (by kernel_rfl)) rfl
   have hg:=(hI.vot 23 (of_decide_eq_true rfl) (of_decide_eq_true rfl) rfl)
   have hc:W.cell? ⟨w.heap.size,5,none⟩=some (.slice s.a3 s.n3 s.c3):=(cell_of_row _ _ 5 _ _ (0,0) hg).trans rfl
   exact opw_load1 32 11 rfl _ f _ (by simp [Instr.loadAt,go_sem,hc]) (hKQ.out _ _ (hI.put 9 12 rfl rfl (by rw [hz]; decide) rfl hUN rfl HBB (rsD_stb s x l vb w.heap.size (w.heap.size)) (Below.refl _ _) rfl))
  ·intro lQ b W hI hUN hED KQ hKQ
   refine rk_take 7 true 10 rfl rfl (hI.got 7 (of_decide_eq_true rfl) (edge hED 7 (by kernel_rfl)) rfl) ?_
   have f:aT b 12=.slice s.a3 s.n3 s.c3:=hI.got 9 (of_decide_eq_true rfl) (edge hED 9 (by kernel_rfl)) rfl
   exact opw_lenQ 12 _ _ rfl Tryz.underlying32 _ _ _ f (hKQ.out _ _ (hI.put 10 13 rfl rfl (by rw [hz]; decide) rfl hUN rfl HBB (rsD_stb s x l vb w.heap.size (w.heap.size)) (Below.refl _ _) rfl))
  ·intro lQ b W hI hUN hED KQ hKQ
   refine rk_take 7 true 10 rfl rfl (hI.got 7 (of_decide_eq_true rfl) (edge hED 7 (by kernel_rfl)) rfl) ?_
   have f:aT b 13=.int .i64 s.n3:=hI.got 10 (of_decide_eq_true rfl) (edge hED 10 (by kernel_rfl)) rfl
   refine opw_leqQ _ _ 13 500 rfl _ f ?_
   rw [HLE.out]
   exact hKQ.out _ _ (hI.put 11 14 rfl rfl (by rw [hz]; decide) rfl hUN rfl HBB (rsD_stb s x l vb w.heap.size (w.heap.size)) (Below.refl _ _) rfl)
  ·intro lQ b W hI hUN hED KQ hKQ
   refine rk_plain rfl ?_
   have fc:aT b 10=.bool true:=hI.got 7 (of_decide_eq_true rfl) (edge hED 7 (by kernel_rfl)) rfl
   have f:=hI.got 11 (of_decide_eq_true rfl) (edge hED 11 (by kernel_rfl)) rfl
   replace f:aT b 14=.bool true:=f
   exact opw_pick_t 10 _ _ rfl fc _ f (hKQ.out _ _ (hI.put 12 15 rfl rfl (by rw [hz]; decide) rfl hUN rfl HBB (rsD_stb s x l vb w.heap.size (w.heap.size)) (Below.refl _ _) rfl))
  ·intro lQ b W hI hUN hED KQ hKQ
   refine rk_plain rfl ?_
   have f:=hI.got 12 (of_decide_eq_true rfl) (edge hED 12 (by kernel_rfl)) rfl
   exact opw_move 15 rfl (hKQ.out _ _ (hI.put 13 16 rfl rfl (by rw [hz]; decide) rfl hUN rfl HBB (rsD_stb s x l vb w.heap.size (w.heap.size)) (Below.refl _ _) f))
  ·intro lQ b W hI hUN hED KQ hKQ
   refine rk_take 13 true 16 rfl rfl (hI.got 13 (of_decide_eq_true rfl) (edge hED 13 (by kernel_rfl)) rfl) ?_
   exact opw_field 62 1 2 rfl _ ((hI.fr.same 1 (by decide)).trans g1) _ (by kernel_rfl) (hKQ.out _ _ (hI.put 14 17 rfl rfl (by rw [hz]; decide) rfl hUN rfl HBB (rsD_stb s x l vb w.heap.size (w.heap.size)) (Below.refl _ _) rfl))
  ·intro lQ b W hI hUN hED KQ hKQ
   refine rk_take 13 true 16 rfl rfl (hI.got 13 (of_decide_eq_true rfl) (edge hED 13 (by kernel_rfl)) rfl) ?_
   have f:aT b 17=.pointer (some ⟨w.heap.size,2,none⟩):=hI.got 14 (of_decide_eq_true rfl) (edge hED 14 (by kernel_rfl)) rfl
   have hg:=(hI.vot 23 (of_decide_eq_true rfl) (of_decide_eq_true rfl) rfl)
   have hc0:W.cell? ⟨w.heap.size,2,none⟩=some (.int .i64 x.key.1):=(cell_of_row _ _ 2 _ _ (0,0) hg).trans rfl
   have hc1:W.cell? ⟨w.heap.size,3,none⟩=some (.int .u64 x.key.2.1):=(cell_of_row _ _ 3 _ _ (0,0) hg).trans rfl
   have hc2:W.cell? ⟨w.heap.size,4,none⟩=some (.int .i64 x.key.2.2):=(cell_of_row _ _ 4 _ _ (0,0) hg).trans rfl
   exact opw_load1 41 17 rfl _ f _ (by simp [Instr.loadAt,go_sem,hc0,hc1,hc2]) (hKQ.out _ _ (hI.put 15 18 rfl rfl (by rw [hz]; decide) rfl hUN rfl HBB (rsD_stb s x l vb w.heap.size (w.heap.size)) (Below.refl _ _) rfl))
  ·intro lQ b W hI hUN hED KQ hKQ
   refine rk_take 13 true 16 rfl rfl (hI.got 13 (of_decide_eq_true rfl) (edge hED 13 (by kernel_rfl)) rfl) ?_
   have hg:=(hI.vot 23 (of_decide_eq_true rfl) (of_decide_eq_true rfl) rfl)
   refine wp_load_row 62 _ rfl (w.heap.size) ((hI.fr.same 1 (by decide)).trans g1) 62 #[.slice s.a1 s.n1 s.c1,.slice s.a2 s.n2 s.c2,.int .i64 x.key.1,.int .u64 x.key.2.1,.int .i64 x.key.2.2,.slice s.a3 s.n3 s.c3] (0,0) _ hg Tryz.underlying62 rfl (by kernel_rfl) ?_
   exact hKQ.out _ _ (hI.put 16 19 rfl rfl (by rw [hz]; decide) rfl hUN rfl HBB (rsD_stb s x l vb w.heap.size (w.heap.size)) (Below.refl _ _) rfl)
  ·intro lQ b W hI hUN hED KQ hKQ
   refine rk_take 13 true 16 rfl rfl (hI.got 13 (of_decide_eq_true rfl) (edge hED 13 (by kernel_rfl)) rfl) ?_
   have f0:aT b 19=.agg #[.slice s.a1 s.n1 s.c1,.slice s.a2 s.n2 s.c2,.int .i64 x.key.1,.int .u64 x.key.2.1,.int .i64 x.key.2.2,.slice s.a3 s.n3 s.c3]:=hI.got 16 (of_decide_eq_true rfl) (edge hED 16 (by kernel_rfl)) rfl
   refine opw_call 67 #[.tmp 19] _ _ _ rfl Tryz.func67 (by kernel_rfl) rfl #[.agg #[.slice s.a1 s.n1 s.c1,.slice s.a2 s.n2 s.c2,.int .i64 x.key.1,.int .u64 x.key.2.1,.int .i64 x.key.2.2,.slice s.a3 s.n3 s.c3]] (by simp [ev,f0]) ?_
   refine (HBD.out W hI.bel).mono ?_
   rintro r W2 ⟨a4,c4,rfl,ho,hb⟩
   exact ⟨_,rfl,hKQ.out _ _ (hI.put 17 20 rfl rfl (by rw [hz]; decide) rfl hUN rfl HBB (rsD_stb s x l vb w.heap.size (w.heap.size)) hb ⟨a4,c4,rfl,ho.mono (Nat.le_trans HBB hI.bel.size)⟩)⟩
  ·intro lQ b W hI hUN hED KQ hKQ
   refine rk_take 13 true 16 rfl rfl (hI.got 13 (of_decide_eq_true rfl) (edge hED 13 (by kernel_rfl)) rfl) ?_
   exact opw_field 62 1 3 rfl _ ((hI.fr.same 1 (by decide)).trans g1) _ (by kernel_rfl) (hKQ.out _ _ (hI.put 18 21 rfl rfl (by rw [hz]; decide) rfl hUN rfl HBB (rsD_stb s x l vb w.heap.size (w.heap.size)) (Below.refl _ _) rfl))
  ·intro lQ b W hI hUN hED KQ hKQ
   refine rk_take 13 true 16 rfl rfl (hI.got 13 (of_decide_eq_true rfl) (edge hED 13 (by kernel_rfl)) rfl) ?_
   have f:=hI.got 18 (of_decide_eq_true rfl) (edge hED 18 (by kernel_rfl)) rfl
   have hg:=(hI.vot 23 (of_decide_eq_true rfl) (of_decide_eq_true rfl) rfl)
   have hc:W.cell? ⟨w.heap.size,5,none⟩=some (.slice s.a3 s.n3 s.c3):=(cell_of_row _ _ 5 _ _ (0,0) hg).trans rfl
   exact opw_load1 32 21 rfl _ f _ (by simp [Instr.loadAt,go_sem,hc]) (hKQ.out _ _ (hI.put 19 22 rfl rfl (by rw [hz]; decide) rfl hUN rfl HBB (rsD_stb s x l vb w.heap.size (w.heap.size)) (Below.refl _ _) rfl))
  ·intro lQ b W hI hUN hED KQ hKQ
   refine rk_take 13 true 16 rfl rfl (hI.got 13 (of_decide_eq_true rfl) (edge hED 13 (by kernel_rfl)) rfl) ?_
   have f0:aT b 18=.agg #[.int .i64 x.key.1,.int .u64 x.key.2.1,.int .i64 x.key.2.2]:=hI.got 15 (of_decide_eq_true rfl) (edge hED 15 (by kernel_rfl)) rfl
   obtain ⟨a4,c4,f1,o1⟩:=hI.got 17 (of_decide_eq_true rfl) (edge hED 17 (by kernel_rfl)) rfl
   replace f1:aT b 20=.slice a4 l.length c4:=f1
   have f2:aT b 22=.slice s.a3 s.n3 s.c3:=hI.got 19 (of_decide_eq_true rfl) (edge hED 19 (by kernel_rfl)) rfl
   refine opw_call 63 #[.tmp 18,.tmp 20,.tmp 22] _ _ _ rfl Tryz.func63 (by kernel_rfl) rfl #[.agg #[.int .i64 x.key.1,.int .u64 x.key.2.1,.int .i64 x.key.2.2],.slice a4 l.length c4,.slice s.a3 s.n3 s.c3] (by simp [ev,f0,f1,f2]) ?_
   refine (HVF.out W a4 c4 hI.bel o1).mono ?_
   rintro r W2 ⟨rfl,hb⟩
   exact ⟨_,rfl,hKQ.out _ _ (hI.put 20 23 rfl rfl (by rw [hz]; decide) rfl hUN rfl HBB (rsD_stb s x l vb w.heap.size (w.heap.size)) hb rfl)⟩
  ·intro lQ b W hI hUN hED KQ hKQ
   refine rk_plain rfl ?_
   have fc:aT b 16=.bool true:=hI.got 13 (of_decide_eq_true rfl) (edge hED 13 (by kernel_rfl)) rfl
   have f:=hI.got 20 (of_decide_eq_true rfl) (edge hED 20 (by kernel_rfl)) rfl
   replace f:aT b 23=.bool vb:=f
   exact opw_pick_t 16 _ _ rfl fc _ f (hKQ.out _ _ (hI.put 21 24 rfl rfl (by rw [hz]; decide) rfl hUN rfl HBB (rsD_stb s x l vb w.heap.size (w.heap.size)) (Below.refl _ _) rfl))
  ·intro lQ b W hI hUN hED KQ hKQ
   refine rk_plain rfl ?_
   have f:=hI.got 21 (of_decide_eq_true rfl) (edge hED 21 (by kernel_rfl)) rfl
   exact opw_assign 24 rfl (hKQ.out _ _ (hI.put 22 2 rfl rfl (by rw [hz]; decide) rfl hUN rfl HBB (rsD_stb s x l vb w.heap.size (w.heap.size)) (Below.refl _ _) f))
 ·intro b W hf hb F
  have e2:aT b 2=.bool vb:=F 22 (of_decide_eq_true rfl) rfl
  rw [hf.eq]
  simp only [puts,Act.put,List.setIfInBounds_toArray,List.set_cons_zero,List.set_cons_succ,e2]
  clear hf F e2
  generalize aT b=AT
  clear b
  go_wp2
  go_ret
  exact ⟨vb,rfl,HVB,hB0.trans hb⟩
end Go.Proofs.YtmdfbnlgfhjnoaaGreatDoor
