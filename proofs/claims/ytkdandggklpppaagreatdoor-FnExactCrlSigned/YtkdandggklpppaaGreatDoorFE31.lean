import Derived.Test.YtkdandggklpppaaGreatDoorFE21
import Derived.Test.YtkdandggklpppaaGreatDoorFE30
set_option maxRecDepth 10000
set_option maxHeartbeats 8000000
set_option linter.unusedVariables false
namespace Go.Proofs.YtkdandggklpppaaGreatDoor
open Go.RowKit Go.Sort
theorem l2Leaf_aggC (tag:Int)(a:Option Addr)(n c:Nat)(bs:List Int)(w:World)(h:Row w a n bs)(hc:a=none→c=0)(hn:n≤1000) :
  Calls Tryz.prog 72 #[.int .i64 0,.int .i64 tag,.slice a n c] w fun e w'=>∃ a c,e=.returned (.agg #[.int .i64 0,.int .i64 tag,.bool false,.slice a n c,.slice none 0 0])∧Own (w.heap.size) w' a n c bs∧Below w.heap.size w w':=(l2Leaf_any tag a n c bs w h hc hn).mono fun e w' ⟨a,c,he,ho,hb⟩=>⟨a,c,he,ho.mono (by omega),hb⟩
theorem l9Num_R (n:Int)(L:Nat)(w:World) :
  Calls Tryz.prog 38 #[.int .i64 n] w fun e w'=>ItR L w.heap.size 1 (numI n) e w'∧Below w.heap.size w w':=by
 refine (l9Num_agg n w).mono ?_
 rintro e w1 ⟨a,c,rfl,ho,hb⟩
 exact ⟨⟨_,_,_,_,_,_,rfl,Own.itzB (ho.mono (Nat.le_succ _)) 2 (by have:=wsz_bd n; omega)⟩,hb⟩
theorem l9Bytes_R (a:Option Addr)(n c:Nat)(bs:List Int)(L:Nat)(w:World)(h:Row w a n bs)(hc:a=none→c=0)(hn:n≤1000) :
  Calls Tryz.prog 71 #[.slice a n c] w fun e w'=>ItR L w.heap.size 1 (bytI bs) e w'∧Below w.heap.size w w':=by
 refine (l9Bytes_agg a n c bs w h hc hn).mono ?_
 rintro e w1 ⟨a,c,rfl,ho,hb⟩
 exact ⟨⟨_,_,_,_,_,_,rfl,Own.itzB (ho.mono (Nat.le_succ _)) 4 (by omega)⟩,hb⟩
theorem l9Struct_R {L R d n:Nat}{gr:Nat}{ks:List It}{w:World}(h:KidZ L R w gr d ks)(hn:ks.length=n) :
  Calls Tryz.prog 36 #[.slice (some ⟨gr,0,none⟩) n n] w fun e w'=>ItR L R d (strI ks) e w'∧Below w.heap.size w w':=by
 subst hn
 refine (l9Struct_agg (some ⟨gr,0,none⟩) ks.length ks.length w).mono ?_
 rintro e w1 ⟨rfl,hb⟩
 exact ⟨⟨_,_,_,_,_,_,rfl,(h.kept hb).itz 0 16⟩,hb⟩
theorem l2Box_R {L R d n:Nat}{gr:Nat}{ks:List It}{w:World}(tag:Int)(h:KidZ L R w gr d ks)(hn:ks.length=n) :
  Calls Tryz.prog 40 #[.int .i64 1,.int .i64 tag,.slice (some ⟨gr,0,none⟩) n n] w fun e w'=>ItR L R d (boxI tag ks) e w'∧Below w.heap.size w w':=by
 subst hn
 refine (l2BoxC_agg 1 tag (some ⟨gr,0,none⟩) ks.length ks.length w).mono ?_
 rintro e w1 ⟨rfl,hb⟩
 exact ⟨⟨_,_,_,_,_,_,rfl,(h.kept hb).itz 1 tag⟩,hb⟩
theorem l9List_R {L R d n co:Nat}{ao:Option Addr}{ks:List It}{w:World}(h:ListZ L R d w ao n ks) :
  Calls Tryz.prog 42 #[.slice ao n co] w fun e w'=>ItR L R d (lstI ks) e w'∧Below w.heap.size w w':=by
 refine (l9List_agg ao n co w).mono ?_
 rintro e w1 ⟨rfl,hb⟩
 exact ⟨⟨_,_,_,_,_,_,rfl,(h.kept hb).itz⟩,hb⟩
theorem l9Flag_R (b:Bool)(w:World)(L:Nat)(hL:L≤w.heap.size):Calls Tryz.prog 41 #[.bool b] w fun e w'=>ItR L w.heap.size 1 (flgI b) e w'∧Below w.heap.size w w':=by
 have hbx:=box5_below w
 have hsz:=box5_size w
 have HB5:Hid (_=_):=box5_new w
 cases b
 ·have hbA:Below (box5 w).heap.size (box5 w) ((box5 w).alloc (.cells #[.int .u8 0] 5)):=(Below.refl _ _).alloc (Nat.le_refl _) _
  have HN:Hid (((box5 w).alloc (.cells #[.int .u8 0] 5)).heap[(box5 w).heap.size]? = some (.cells #[.int .u8 0] 5 (0,0))):=heap_alloc_new (box5 w) _
  have hR:Row ((box5 w).alloc (.cells #[.int .u8 0] 5)) (some ⟨w.heap.size+1,0,none⟩) 1 [0]:=by
   refine ⟨rfl,fun k hk=>⟨w.heap.size+1,0,rfl,by simp [hsz],?_⟩,fun k=>?_⟩
   ·obtain rfl:k=0:=by omega
    have:=HN.out
    rw [hsz] at this
    exact (cell_of_row _ _ 0 _ 5 (0,0) this).trans rfl
   ·match k with
    | 0=>decide
    | k+1=>simp
  have HL:Hid (_):=l2Leaf_aggC 1 (some ⟨w.heap.size+1,0,none⟩) 1 1 [0] ((box5 w).alloc (.cells #[.int .u8 0] 5)) hR (fun e=>by cases e) (by decide)
  have HB5b:=below_kept HB5.out hbA
  have hsb:((box5 w).alloc (.cells #[.int .u8 0] 5)).heap.size=w.heap.size+2:=by simp [hsz]
  have hbx2:Below w.heap.size w ((box5 w).alloc (.cells #[.int .u8 0] 5)):=keepT hbx hbA
  have HB6:Hid (_=_):=HB5b
  clear hR HN hbA HB5b
  go_enter Tryz.func41,Tryz.ntmps41
  go_wp2_with fail
  refine Calls.mono HL.out ?_
  rintro e w2 ⟨a,c,rfl,ho,hb2⟩
  have HO:Hid (_):=ho
  have h5:=below_kept HB6.out hb2
  obtain ⟨_,q0,q1,q2,q3,q4,q5,q6,q7,q8,q9⟩:=Box5.of h5
  have H5:Hid (_=_):=h5
  have B2:Below w.heap.size w w2:=keepT hbx2 hb2
  clear h5 hb2 ho HL HB6
  go_wp2_with fail
  try simp only [Exit.inBlock,Exit.then]
  have T:=put5_touch w2 w.heap.size (.int .i64 0) (.int .i64 1) (.bool false) (.slice a 1 c) (.slice none 0 0)
  have hZ:ItZ L (w.heap.size+1) 1 w2 (flgI false) a 1 c none 0 0:=Own.itzB (HO.out.mono (by omega)) 1 (by decide)
  exact bodyPost_ret (results_it rfl _ w.heap.size rfl _ _ _ _ _ _ (put5_heap H5.out _ _ _ _ _)) rfl ⟨⟨_,_,_,_,_,_,rfl,hZ.put hL (by omega) _ _ _ _ _⟩,B2.trans (T.below (Nat.le_refl _) B2.size)⟩
 ·have hbA:Below (box5 w).heap.size (box5 w) ((box5 w).alloc (.cells #[.int .u8 255] 5)):=(Below.refl _ _).alloc (Nat.le_refl _) _
  have HN:Hid (((box5 w).alloc (.cells #[.int .u8 255] 5)).heap[(box5 w).heap.size]? = some (.cells #[.int .u8 255] 5 (0,0))):=heap_alloc_new (box5 w) _
  have hR:Row ((box5 w).alloc (.cells #[.int .u8 255] 5)) (some ⟨w.heap.size+1,0,none⟩) 1 [255]:=by
   refine ⟨rfl,fun k hk=>⟨w.heap.size+1,0,rfl,by simp [hsz],?_⟩,fun k=>?_⟩
   ·obtain rfl:k=0:=by omega
    have:=HN.out
    rw [hsz] at this
    exact (cell_of_row _ _ 0 _ 5 (0,0) this).trans rfl
   ·match k with
    | 0=>decide
    | k+1=>simp
  have HL:Hid (_):=l2Leaf_aggC 1 (some ⟨w.heap.size+1,0,none⟩) 1 1 [255] ((box5 w).alloc (.cells #[.int .u8 255] 5)) hR (fun e=>by cases e) (by decide)
  have HB5b:=below_kept HB5.out hbA
  have hsb:((box5 w).alloc (.cells #[.int .u8 255] 5)).heap.size=w.heap.size+2:=by simp [hsz]
  have hbx2:Below w.heap.size w ((box5 w).alloc (.cells #[.int .u8 255] 5)):=keepT hbx hbA
  have HB6:Hid (_=_):=HB5b
  clear hR HN hbA HB5b
  go_enter Tryz.func41,Tryz.ntmps41
  go_wp2_with fail
  refine Calls.mono HL.out ?_
  rintro e w2 ⟨a,c,rfl,ho,hb2⟩
  have HO:Hid (_):=ho
  have h5:=below_kept HB6.out hb2
  obtain ⟨_,q0,q1,q2,q3,q4,q5,q6,q7,q8,q9⟩:=Box5.of h5
  have H5:Hid (_=_):=h5
  have B2:Below w.heap.size w w2:=keepT hbx2 hb2
  clear h5 hb2 ho HL HB6
  go_wp2_with fail
  try simp only [Exit.inBlock,Exit.then]
  have T:=put5_touch w2 w.heap.size (.int .i64 0) (.int .i64 1) (.bool false) (.slice a 1 c) (.slice none 0 0)
  have hZ:ItZ L (w.heap.size+1) 1 w2 (flgI true) a 1 c none 0 0:=Own.itzB (HO.out.mono (by omega)) 1 (by decide)
  exact bodyPost_ret (results_it rfl _ w.heap.size rfl _ _ _ _ _ _ (put5_heap H5.out _ _ _ _ _)) rfl ⟨⟨_,_,_,_,_,_,rfl,hZ.put hL (by omega) _ _ _ _ _⟩,B2.trans (T.below (Nat.le_refl _) B2.size)⟩
theorem opw_convert {P:Program}{Q:Exit→Act→World→Prop}{o:Oper}{a:Act}{w w':World}{K:Act→World→Prop}(t1 t2 x:Nat)(ho:o.op=.convert t1 t2 (.tmp x))(p v:Value)(hx:aT a x=p)(hr:(convert t1 t2 p).run P w=.ok v w')(h:K (a.put o.dst v) w'):o.wp P a w K Q:=by
 refine opw_value v ?_ h
 have hx':a.eval (.tmp x)=p:=hx
 unfold execOp
 simp only [ho]
 rw [hx']
 simp [hr]
structure RowQ (Q:Nat)(w:World)(g n:Nat)(bs:List Int):Prop where
 row:Row w (some ⟨g,0,none⟩) n bs
 ge:Q≤g
theorem RowQ.kept {Q:Nat}{w w':World}{g n:Nat}{bs:List Int}(h:RowQ Q w g n bs)(hb:Below w.heap.size w w'):RowQ Q w' g n bs:=⟨h.row.kept hb,h.ge⟩
theorem RowQ.grown {Q:Nat}{w w':World}{g n:Nat}{bs:List Int}{row:Option Nat}{L:Nat}(h:RowQ Q w g n bs)(hg:w.grownBy w' row)(hlt:∀ j,row=some j→L≤j∧j<Q):RowQ Q w' g n bs :=
 ⟨(h.row.atG.touch (P:=fun k=>row=some k) (fun k hk e=>by have:=hlt k e; have:=h.ge; omega) (touchX_g hg (fun k hk=>hk))).row,h.ge⟩
theorem ownItZ_empty (d L:Nat)(w:World):OwnItZ d L w.heap.size (w.alloc (.cells #[] 81)) (some ⟨w.heap.size,0,none⟩) 0 0 []:=by
 have hrow:(w.alloc (.cells #[] 81)).ownsRow 0 81 5 (.slice (some ⟨w.heap.size,0,none⟩) 0 0) 0 []:=⟨rfl,.inr ⟨w.heap.size,0,#[],rfl,Nat.zero_le _,heap_alloc_new w _,Nat.le_refl _,by decide,rfl,rfl⟩⟩
 exact ⟨⟨rfl,by decide,⟨[],hrow,fun k hk=>absurd hk (Nat.not_lt_zero _)⟩,fun b hb hc=>hc.2.2 hb⟩,fun b hb=>Nat.le_of_eq (by injection hb)⟩
theorem indexPart (bq oq n c kq:Nat)(W:World)(h:kq<n):(Instr.indexAt 34 (.slice (some ⟨bq,oq,none⟩) n c) (.int .i64 (kq:Int))).run Tryz.prog W=.ok (.pointer (some ⟨bq,oq+kq * 2,none⟩)) W:=by
 refine (run_indexAt_slice (P:=Tryz.prog) (w:=W) 34 ⟨bq,oq,none⟩ n c .i64 (kq:Int) (by kernel_rfl)).trans ?_
 rw [if_pos ⟨by omega,by omega⟩]
 have hs:(sizeOf (Tryz.prog.elem 34)).run Tryz.prog W=.ok 2 W:=by kernel_rfl
 rw [hs]
 simp [Result.andThen,Addr.add_lit]
open Go.RowKit Go.Maps
theorem opw_mapUpdate {H:Type}{P:Program}{Q:Exit→Act→World→Prop}{o:Oper}{a:Act}{w:World}{K:Act→World→Prop}(m x v:Nat)(t:TypeId)(hop:o.op=.mapUpdate t (.tmp m) (.tmp x) (.tmp v))
  (k e:TypeId) (KL:Keyed P k) (ht:P.underlying t=some (.map k e)) (R:Value→Option (DataW H × List MemPlace)) (b n:Nat) (D:DataW H)
  (hm:aT a m=.map (some b)) (hown:w.ownsMap P k R b n D) (hn:n<maxLen) (key val:Value) (l:Lit) (hx:aT a x=key) (hv:aT a v=val) (hkey:Go.keyOf P k key=some l)
  (d:DataW H) (ps:List MemPlace) (hval:R val=some (d,ps))
  (hK:∀ w',w'.ownsMap P k R b (n+1) (D.put l d)→w.grownBy w' (some b)→K (a.put o.dst undef) w'):o.wp P a w K Q:=by
 obtain ⟨w',hrun,r1,r2⟩:=hown.update KL ht hn hkey hval
 have hm':a.eval (.tmp m)=.map (some b):=hm
 have hx':a.eval (.tmp x)=key:=hx
 have hv':a.eval (.tmp v)=val:=hv
 unfold Oper.wp
 simp [execOp,hop,hm',hx',hv',hrun,Result.andThen]
 exact hK w' r1 r2
theorem addKey_str (acc:List (List UInt8))(x:List UInt8):addKey (acc.map Lit.string) (.string x)=(if x∈acc then acc else acc++[x]).map Lit.string:=by
 unfold addKey
 have e:((acc.map Lit.string).any fun y=>y.sameKey (.string x))=decide (x∈acc):=by
  induction acc with
  | nil=>rfl
  | cons z acc ih =>
   rw [List.map_cons,List.any_cons,ih]
   by_cases h:z=x
   ·subst h; simp [Lit.sameKey]
   ·have h2:¬ x=z:=fun q=>h q.symm
    simp [Lit.sameKey,h,h2]
 rw [e]
 by_cases h:x∈acc <;> simp [h]
def addS (acc:List (List UInt8))(x:List UInt8):List (List UInt8):=if x∈acc then acc else acc++[x]
theorem fold_str:∀ (xs acc:List (List UInt8)),(xs.map Lit.string).foldl addKey (acc.map Lit.string)=(xs.foldl addS acc).map Lit.string
 | [],acc=>rfl
 | x::xs,acc=>by
  rw [List.map_cons,List.foldl_cons,addKey_str]
  exact fold_str xs (addS acc x)
theorem addS_mem (acc:List (List UInt8))(x y:List UInt8):y∈addS acc x↔y∈acc∨y=x:=by
 unfold addS
 split
 ·rename_i h
  exact ⟨.inl,fun q=>q.elim id (fun e=>by rw [e]; exact h)⟩
 ·simp
theorem fold_len:∀ (xs acc:List (List UInt8)),(xs.foldl addS acc).length≤acc.length+xs.length∧((xs.foldl addS acc).length=acc.length+xs.length↔(∀ y∈xs,y∉acc)∧xs.Nodup)
 | [],acc=>by simp
 | x::xs,acc=>by
  have ih:=fold_len xs (addS acc x)
  rw [List.foldl_cons]
  by_cases h:x∈acc
  ·have e:addS acc x=acc:=by unfold addS; rw [if_pos h]
   rw [e] at ih ⊢
   refine ⟨by simp only [List.length_cons]; omega,⟨fun q=>?_,fun q=>absurd h (q.1 x (List.Mem.head _))⟩⟩
   simp only [List.length_cons] at q
   omega
  ·have e:(addS acc x).length=acc.length+1:=by unfold addS; rw [if_neg h]; simp
   refine ⟨by simp only [List.length_cons]; omega,?_⟩
   have e2:((xs.foldl addS (addS acc x)).length=acc.length+(x::xs).length)↔(xs.foldl addS (addS acc x)).length=(addS acc x).length+xs.length:=by simp only [List.length_cons]; omega
   rw [e2,ih.2,List.nodup_cons]
   constructor
   ·rintro ⟨q1,q2⟩
    refine ⟨fun y hy=>?_,fun hx=>q1 x hx ((addS_mem _ _ _).2 (.inr rfl)),q2⟩
    rcases List.mem_cons.1 hy with rfl | hy
    ·exact h
    ·exact fun ha=>q1 y hy ((addS_mem _ _ _).2 (.inl ha))
   ·rintro ⟨q1,q2,q3⟩
    refine ⟨fun y hy ha=>?_,q3⟩
    rcases (addS_mem _ _ _).1 ha with ha | rfl
    ·exact q1 y (List.Mem.tail _ hy) ha
    ·exact q2 hy
open Go.RowKit
def sigv (t:Int × Int):Value:=.agg #[.int .i64 t.1,.int .i64 t.2]
structure BoxS (t g:Nat)(W:World)(p:Int × Int):Prop where
 heap:W.heap[g]? = some (.cells #[.int .i64 p.1,.int .i64 p.2] t (0,0))
theorem BoxS.c0 {t g:Nat}{W:World}{p:Int × Int}(h:BoxS t g W p):W.cell? ⟨g,0,none⟩=some (.int .i64 p.1):=(cell_of_row _ g 0 _ t (0,0) h.heap).trans rfl
theorem BoxS.c1 {t g:Nat}{W:World}{p:Int × Int}(h:BoxS t g W p):W.cell? ⟨g,1,none⟩=some (.int .i64 p.2):=(cell_of_row _ g 1 _ t (0,0) h.heap).trans rfl
theorem BoxS.lt {t g:Nat}{W:World}{p:Int × Int}(h:BoxS t g W p):g<W.heap.size:=(Array.getElem?_eq_some_iff.1 h.heap).1
theorem BoxS.kept {t g:Nat}{W W':World}{p:Int × Int}(h:BoxS t g W p)(hb:Below W.heap.size W W'):BoxS t g W' p:=⟨(hb.block _ h.lt).trans h.heap⟩
theorem boxS_new (t:Nat)(w:World)(a b:Int):BoxS t w.heap.size (w.alloc (.cells #[.int .i64 a,.int .i64 b] t)) (a,b):=⟨heap_alloc_new w _⟩
open Go.RowKit
theorem keep_first {w w1 w2:World}(h:Below w.heap.size w w1)(k:Below w1.heap.size w1 w2):Below w.heap.size w w2:=h.trans (k.mono h.size)
open Go.ChangeShapes Go.WideShapes Go.ChangeAt Go.RowKit
set_option maxRecDepth 20000 in
theorem open_crlW {H:Type}{enc:TypeId × Value→H}{W:World}{fuel:Nat}{cs:List Value}{x:DataW H × List MemPlace}(h:DataW.trod enc Tryz.prog W 0 (fun _=>true) true fuel 28 cs=some x):∃ a1 n1 c1 a2 n2 c2 a3 n3 c3,∃ x:CP,cs = [.slice a1 n1 c1,.int .i64 x.num,.int .i64 x.base,.int .i64 x.tm,.int .i64 x.next,.int .i64 x.scope,.bool x.ind,.slice a2 n2 c2,.slice a3 n3 c3]∧Crs W a1 n1 a2 n2 a3 n3 x∧(-9223372036854775808≤x.scope∧x.scope≤9223372036854775807):=by
 obtain ⟨xs,m,rfl,_,hl,hxl,hf⟩:=DataW.trod_struct Tryz.underlying28 h
 have hl2:cs.length=9:=hl.trans (by kernel_rfl)
 have hx2:xs.length=9:=hxl
 obtain ⟨c0,c1,c2,c3,c4,c5,c6,c7,c8,rfl⟩:∃ c0 c1 c2 c3 c4 c5 c6 c7 c8,cs = [c0,c1,c2,c3,c4,c5,c6,c7,c8]:=by
  match cs,hl2 with
  | [c0,c1,c2,c3,c4,c5,c6,c7,c8],_=>exact ⟨c0,c1,c2,c3,c4,c5,c6,c7,c8,rfl⟩
 obtain ⟨x0,x1,x2,x3,x4,x5,x6,x7,x8,rfl⟩:∃ c0 c1 c2 c3 c4 c5 c6 c7 c8,xs = [c0,c1,c2,c3,c4,c5,c6,c7,c8]:=by
  match xs,hx2 with
  | [c0,c1,c2,c3,c4,c5,c6,c7,c8],_=>exact ⟨c0,c1,c2,c3,c4,c5,c6,c7,c8,rfl⟩
 have e0:Tryz.prog.cellsOf 24=1:=by kernel_rfl
 have f0:DataW.trod enc Tryz.prog W 0 (fun _=>true) true m 24 ((([c0,c1,c2,c3,c4,c5,c6,c7,c8]:List Value).drop 0).take (Tryz.prog.cellsOf 24))=some x0:=hf 0 _ rfl
 rw [e0] at f0
 have e1:Tryz.prog.cellsOf 2=1:=by kernel_rfl
 have f1:DataW.trod enc Tryz.prog W 0 (fun _=>true) true m 2 ((([c0,c1,c2,c3,c4,c5,c6,c7,c8]:List Value).drop 1).take (Tryz.prog.cellsOf 2))=some x1:=hf 1 _ rfl
 rw [e1] at f1
 have e2:Tryz.prog.cellsOf 2=1:=by kernel_rfl
 have f2:DataW.trod enc Tryz.prog W 0 (fun _=>true) true m 2 ((([c0,c1,c2,c3,c4,c5,c6,c7,c8]:List Value).drop 2).take (Tryz.prog.cellsOf 2))=some x2:=hf 2 _ rfl
 rw [e2] at f2
 have e3:Tryz.prog.cellsOf 2=1:=by kernel_rfl
 have f3:DataW.trod enc Tryz.prog W 0 (fun _=>true) true m 2 ((([c0,c1,c2,c3,c4,c5,c6,c7,c8]:List Value).drop 3).take (Tryz.prog.cellsOf 2))=some x3:=hf 3 _ rfl
 rw [e3] at f3
 have e4:Tryz.prog.cellsOf 2=1:=by kernel_rfl
 have f4:DataW.trod enc Tryz.prog W 0 (fun _=>true) true m 2 ((([c0,c1,c2,c3,c4,c5,c6,c7,c8]:List Value).drop 4).take (Tryz.prog.cellsOf 2))=some x4:=hf 4 _ rfl
 rw [e4] at f4
 have e5:Tryz.prog.cellsOf 2=1:=by kernel_rfl
 have f5:DataW.trod enc Tryz.prog W 0 (fun _=>true) true m 2 ((([c0,c1,c2,c3,c4,c5,c6,c7,c8]:List Value).drop 5).take (Tryz.prog.cellsOf 2))=some x5:=hf 5 _ rfl
 rw [e5] at f5
 have e6:Tryz.prog.cellsOf 4=1:=by kernel_rfl
 have f6:DataW.trod enc Tryz.prog W 0 (fun _=>true) true m 4 ((([c0,c1,c2,c3,c4,c5,c6,c7,c8]:List Value).drop 6).take (Tryz.prog.cellsOf 4))=some x6:=hf 6 _ rfl
 rw [e6] at f6
 have e7:Tryz.prog.cellsOf 25=1:=by kernel_rfl
 have f7:DataW.trod enc Tryz.prog W 0 (fun _=>true) true m 25 ((([c0,c1,c2,c3,c4,c5,c6,c7,c8]:List Value).drop 7).take (Tryz.prog.cellsOf 25))=some x7:=hf 7 _ rfl
 rw [e7] at f7
 have e8:Tryz.prog.cellsOf 26=1:=by kernel_rfl
 have f8:DataW.trod enc Tryz.prog W 0 (fun _=>true) true m 26 ((([c0,c1,c2,c3,c4,c5,c6,c7,c8]:List Value).drop 8).take (Tryz.prog.cellsOf 26))=some x8:=hf 8 _ rfl
 rw [e8] at f8
 obtain ⟨a1,n1,d1,ys,h0,hp⟩:=open_name f0
 obtain ⟨v1,h1,_,_⟩:=DataW.trod_int Tryz.underlying2 f1
 obtain ⟨v2,h2,_,_⟩:=DataW.trod_int Tryz.underlying2 f2
 obtain ⟨v3,h3,_,_⟩:=DataW.trod_int Tryz.underlying2 f3
 obtain ⟨v4,h4,_,_⟩:=DataW.trod_int Tryz.underlying2 f4
 obtain ⟨v5,h5,_,w5⟩:=DataW.trod_int Tryz.underlying2 f5
 obtain ⟨v6,h6,_⟩:=DataW.trod_bool Tryz.underlying4 f6
 obtain ⟨a2,n2,d2,es,h7,hg⟩:=open_gones f7
 obtain ⟨a3,n3,d3,bs,h8,hs,hm⟩:=open_sig f8
 simp at h0 h1 h2 h3 h4 h5 h6 h7 h8
 subst h0 h1 h2 h3 h4 h5 h6 h7 h8
 exact ⟨a1,n1,d1,a2,n2,d2,a3,n3,d3,⟨ys,v1,v2,v3,v4,v5,v6,es,bs⟩,rfl,⟨hp,hg,hs,hm⟩,bounds_i64 w5⟩
end Go.Proofs.YtkdandggklpppaaGreatDoor
