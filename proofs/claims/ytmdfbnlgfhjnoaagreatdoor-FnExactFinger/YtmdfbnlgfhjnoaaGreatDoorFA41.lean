import Derived.Test.YtmdfbnlgfhjnoaaGreatDoorFA36
import Derived.Test.YtmdfbnlgfhjnoaaGreatDoorFA15
set_option maxRecDepth 10000
set_option maxHeartbeats 8000000
set_option linter.unusedVariables false
namespace Go.Proofs.YtmdfbnlgfhjnoaaGreatDoor
open Go.RowKit Go.Sort
theorem l2Leaf_aggC (tag:Int)(a:Option Addr)(n c:Nat)(bs:List Int)(w:World)(h:Row w a n bs)(hc:a=none→c=0)(hn:n≤1000) :
  Calls Tryz.prog 136 #[.int .i64 0,.int .i64 tag,.slice a n c] w fun e w'=>∃ a c,e=.returned (.agg #[.int .i64 0,.int .i64 tag,.bool false,.slice a n c,.slice none 0 0])∧Own (w.heap.size) w' a n c bs∧Below w.heap.size w w':=(l2Leaf_any tag a n c bs w h hc hn).mono fun e w' ⟨a,c,he,ho,hb⟩=>⟨a,c,he,ho.mono (by omega),hb⟩
theorem l9Num_R (n:Int)(L:Nat)(w:World) :
  Calls Tryz.prog 81 #[.int .i64 n] w fun e w'=>ItR L w.heap.size 1 (numI n) e w'∧Below w.heap.size w w':=by
 refine (l9Num_agg n w).mono ?_
 rintro e w1 ⟨a,c,rfl,ho,hb⟩
 exact ⟨⟨_,_,_,_,_,_,rfl,Own.itzB (ho.mono (Nat.le_succ _)) 2 (by have:=wsz_bd n; omega)⟩,hb⟩
theorem l9Bytes_R (a:Option Addr)(n c:Nat)(bs:List Int)(L:Nat)(w:World)(h:Row w a n bs)(hc:a=none→c=0)(hn:n≤1000) :
  Calls Tryz.prog 83 #[.slice a n c] w fun e w'=>ItR L w.heap.size 1 (bytI bs) e w'∧Below w.heap.size w w':=by
 refine (l9Bytes_agg a n c bs w h hc hn).mono ?_
 rintro e w1 ⟨a,c,rfl,ho,hb⟩
 exact ⟨⟨_,_,_,_,_,_,rfl,Own.itzB (ho.mono (Nat.le_succ _)) 4 (by omega)⟩,hb⟩
theorem l9Struct_R {L R d n:Nat}{gr:Nat}{ks:List It}{w:World}(h:KidZ L R w gr d ks)(hn:ks.length=n) :
  Calls Tryz.prog 80 #[.slice (some ⟨gr,0,none⟩) n n] w fun e w'=>ItR L R d (strI ks) e w'∧Below w.heap.size w w':=by
 subst hn
 refine (l9Struct_agg (some ⟨gr,0,none⟩) ks.length ks.length w).mono ?_
 rintro e w1 ⟨rfl,hb⟩
 exact ⟨⟨_,_,_,_,_,_,rfl,(h.kept hb).itz 0 16⟩,hb⟩
theorem l2Box_R {L R d n:Nat}{gr:Nat}{ks:List It}{w:World}(tag:Int)(h:KidZ L R w gr d ks)(hn:ks.length=n) :
  Calls Tryz.prog 84 #[.int .i64 1,.int .i64 tag,.slice (some ⟨gr,0,none⟩) n n] w fun e w'=>ItR L R d (boxI tag ks) e w'∧Below w.heap.size w w':=by
 subst hn
 refine (l2BoxC_agg 1 tag (some ⟨gr,0,none⟩) ks.length ks.length w).mono ?_
 rintro e w1 ⟨rfl,hb⟩
 exact ⟨⟨_,_,_,_,_,_,rfl,(h.kept hb).itz 1 tag⟩,hb⟩
theorem l9List_R {L R d n co:Nat}{ao:Option Addr}{ks:List It}{w:World}(h:ListZ L R d w ao n ks) :
  Calls Tryz.prog 89 #[.slice ao n co] w fun e w'=>ItR L R d (lstI ks) e w'∧Below w.heap.size w w':=by
 refine (l9List_agg ao n co w).mono ?_
 rintro e w1 ⟨rfl,hb⟩
 exact ⟨⟨_,_,_,_,_,_,rfl,(h.kept hb).itz⟩,hb⟩
theorem l9Flag_R (b:Bool)(w:World)(L:Nat)(hL:L≤w.heap.size):Calls Tryz.prog 82 #[.bool b] w fun e w'=>ItR L w.heap.size 1 (flgI b) e w'∧Below w.heap.size w w':=by
 have hbx:=box5_below w
 have hsz:=box5_size w
 have HB5:Hid (_=_):=box5_new w
 cases b
 ·have hbA:Below (box5 w).heap.size (box5 w) ((box5 w).alloc (.cells #[.int .u8 0] 5)):=(Below.refl _ _).alloc (Nat.le_refl _) _
  have HN:Hid (((box5 w).alloc (.cells #[.int .u8 0] 5)).heap[(box5 w).heap.size]? = some (.cells #[.int .u8 0] 5 (0,0))):=heap_alloc_new (box5 w) _
  have hR:Row ((box5 w).alloc (.cells #[.int .u8 0] 5)) (some ⟨w.heap.size+1,0,none⟩) 1 [0]:=by
   refine ⟨rfl,fun k hk=>⟨w.heap.size+1,0,rfl,by simp [hsz],?_⟩,fun k=>?_⟩
   ·obtain rfl:k=0:=by omega
    have:=HN.out
    rw [hsz] at this
    exact (cell_of_row _ _ 0 _ 5 (0,0) this).trans rfl
   ·match k with
    | 0=>decide
    | k+1=>simp
  have HL:Hid (_):=l2Leaf_aggC 1 (some ⟨w.heap.size+1,0,none⟩) 1 1 [0] ((box5 w).alloc (.cells #[.int .u8 0] 5)) hR (fun e=>by cases e) (by decide)
  have HB5b:=below_kept HB5.out hbA
  have hsb:((box5 w).alloc (.cells #[.int .u8 0] 5)).heap.size=w.heap.size+2:=by simp [hsz]
  have hbx2:Below w.heap.size w ((box5 w).alloc (.cells #[.int .u8 0] 5)):=keepT hbx hbA
  have HB6:Hid (_=_):=HB5b
  clear hR HN hbA HB5b
  go_enter Tryz.func82,Tryz.ntmps82
  go_wp2_with fail
  refine Calls.mono HL.out ?_
  rintro e w2 ⟨a,c,rfl,ho,hb2⟩
  have HO:Hid (_):=ho
  have h5:=below_kept HB6.out hb2
  obtain ⟨_,q0,q1,q2,q3,q4,q5,q6,q7,q8,q9⟩:=Box5.of h5
  have H5:Hid (_=_):=h5
  have B2:Below w.heap.size w w2:=keepT hbx2 hb2
  clear h5 hb2 ho HL HB6
  go_wp2_with fail
  try simp only [Exit.inBlock,Exit.then]
  have T:=put5_touch w2 w.heap.size (.int .i64 0) (.int .i64 1) (.bool false) (.slice a 1 c) (.slice none 0 0)
  have hZ:ItZ L (w.heap.size+1) 1 w2 (flgI false) a 1 c none 0 0:=Own.itzB (HO.out.mono (by omega)) 1 (by decide)
  exact bodyPost_ret (results_it rfl _ w.heap.size rfl _ _ _ _ _ _ (put5_heap H5.out _ _ _ _ _)) rfl ⟨⟨_,_,_,_,_,_,rfl,hZ.put hL (by omega) _ _ _ _ _⟩,B2.trans (T.below (Nat.le_refl _) B2.size)⟩
 ·have hbA:Below (box5 w).heap.size (box5 w) ((box5 w).alloc (.cells #[.int .u8 255] 5)):=(Below.refl _ _).alloc (Nat.le_refl _) _
  have HN:Hid (((box5 w).alloc (.cells #[.int .u8 255] 5)).heap[(box5 w).heap.size]? = some (.cells #[.int .u8 255] 5 (0,0))):=heap_alloc_new (box5 w) _
  have hR:Row ((box5 w).alloc (.cells #[.int .u8 255] 5)) (some ⟨w.heap.size+1,0,none⟩) 1 [255]:=by
   refine ⟨rfl,fun k hk=>⟨w.heap.size+1,0,rfl,by simp [hsz],?_⟩,fun k=>?_⟩
   ·obtain rfl:k=0:=by omega
    have:=HN.out
    rw [hsz] at this
    exact (cell_of_row _ _ 0 _ 5 (0,0) this).trans rfl
   ·match k with
    | 0=>decide
    | k+1=>simp
  have HL:Hid (_):=l2Leaf_aggC 1 (some ⟨w.heap.size+1,0,none⟩) 1 1 [255] ((box5 w).alloc (.cells #[.int .u8 255] 5)) hR (fun e=>by cases e) (by decide)
  have HB5b:=below_kept HB5.out hbA
  have hsb:((box5 w).alloc (.cells #[.int .u8 255] 5)).heap.size=w.heap.size+2:=by simp [hsz]
  have hbx2:Below w.heap.size w ((box5 w).alloc (.cells #[.int .u8 255] 5)):=keepT hbx hbA
  have HB6:Hid (_=_):=HB5b
  clear hR HN hbA HB5b
  go_enter Tryz.func82,Tryz.ntmps82
  go_wp2_with fail
  refine Calls.mono HL.out ?_
  rintro e w2 ⟨a,c,rfl,ho,hb2⟩
  have HO:Hid (_):=ho
  have h5:=below_kept HB6.out hb2
  obtain ⟨_,q0,q1,q2,q3,q4,q5,q6,q7,q8,q9⟩:=Box5.of h5
  have H5:Hid (_=_):=h5
  have B2:Below w.heap.size w w2:=keepT hbx2 hb2
  clear h5 hb2 ho HL HB6
  go_wp2_with fail
  try simp only [Exit.inBlock,Exit.then]
  have T:=put5_touch w2 w.heap.size (.int .i64 0) (.int .i64 1) (.bool false) (.slice a 1 c) (.slice none 0 0)
  have hZ:ItZ L (w.heap.size+1) 1 w2 (flgI true) a 1 c none 0 0:=Own.itzB (HO.out.mono (by omega)) 1 (by decide)
  exact bodyPost_ret (results_it rfl _ w.heap.size rfl _ _ _ _ _ _ (put5_heap H5.out _ _ _ _ _)) rfl ⟨⟨_,_,_,_,_,_,rfl,hZ.put hL (by omega) _ _ _ _ _⟩,B2.trans (T.below (Nat.le_refl _) B2.size)⟩
theorem opw_convert {P:Program}{Q:Exit→Act→World→Prop}{o:Oper}{a:Act}{w w':World}{K:Act→World→Prop}(t1 t2 x:Nat)(ho:o.op=.convert t1 t2 (.tmp x))(p v:Value)(hx:aT a x=p)(hr:(convert t1 t2 p).run P w=.ok v w')(h:K (a.put o.dst v) w'):o.wp P a w K Q:=by
 refine opw_value v ?_ h
 have hx':a.eval (.tmp x)=p:=hx
 unfold execOp
 simp only [ho]
 rw [hx']
 simp [hr]
structure RowQ (Q:Nat)(w:World)(g n:Nat)(bs:List Int):Prop where
 row:Row w (some ⟨g,0,none⟩) n bs
 ge:Q≤g
theorem RowQ.kept {Q:Nat}{w w':World}{g n:Nat}{bs:List Int}(h:RowQ Q w g n bs)(hb:Below w.heap.size w w'):RowQ Q w' g n bs:=⟨h.row.kept hb,h.ge⟩
theorem RowQ.grown {Q:Nat}{w w':World}{g n:Nat}{bs:List Int}{row:Option Nat}{L:Nat}(h:RowQ Q w g n bs)(hg:w.grownBy w' row)(hlt:∀ j,row=some j→L≤j∧j<Q):RowQ Q w' g n bs :=
 ⟨(h.row.atG.touch (P:=fun k=>row=some k) (fun k hk e=>by have:=hlt k e; have:=h.ge; omega) (touchX_g hg (fun k hk=>hk))).row,h.ge⟩
theorem ownItZ_empty (d L:Nat)(w:World):OwnItZ d L w.heap.size (w.alloc (.cells #[] 75)) (some ⟨w.heap.size,0,none⟩) 0 0 []:=by
 have hrow:(w.alloc (.cells #[] 75)).ownsRow 0 75 5 (.slice (some ⟨w.heap.size,0,none⟩) 0 0) 0 []:=⟨rfl,.inr ⟨w.heap.size,0,#[],rfl,Nat.zero_le _,heap_alloc_new w _,Nat.le_refl _,by decide,rfl,rfl⟩⟩
 exact ⟨⟨rfl,by decide,⟨[],hrow,fun k hk=>absurd hk (Nat.not_lt_zero _)⟩,fun b hb hc=>hc.2.2 hb⟩,fun b hb=>Nat.le_of_eq (by injection hb)⟩
theorem indexPart (bq oq n c kq:Nat)(W:World)(h:kq<n):(Instr.indexAt 38 (.slice (some ⟨bq,oq,none⟩) n c) (.int .i64 (kq:Int))).run Tryz.prog W=.ok (.pointer (some ⟨bq,oq+kq * 2,none⟩)) W:=by
 refine (run_indexAt_slice (P:=Tryz.prog) (w:=W) 38 ⟨bq,oq,none⟩ n c .i64 (kq:Int) (by kernel_rfl)).trans ?_
 rw [if_pos ⟨by omega,by omega⟩]
 have hs:(sizeOf (Tryz.prog.elem 38)).run Tryz.prog W=.ok 2 W:=by kernel_rfl
 rw [hs]
 simp [Result.andThen,Addr.add_lit]
theorem indexPolMap (bq oq n c kq:Nat)(W:World)(h:kq<n):(Instr.indexAt 43 (.slice (some ⟨bq,oq,none⟩) n c) (.int .i64 (kq:Int))).run Tryz.prog W=.ok (.pointer (some ⟨bq,oq+kq * 2,none⟩)) W:=by
 refine (run_indexAt_slice (P:=Tryz.prog) (w:=W) 43 ⟨bq,oq,none⟩ n c .i64 (kq:Int) (by kernel_rfl)).trans ?_
 rw [if_pos ⟨by omega,by omega⟩]
 have hs:(sizeOf (Tryz.prog.elem 43)).run Tryz.prog W=.ok 2 W:=by kernel_rfl
 rw [hs]
 simp [Result.andThen,Addr.add_lit]
theorem indexExt (bq oq n c kq:Nat)(W:World)(h:kq<n):(Instr.indexAt 44 (.slice (some ⟨bq,oq,none⟩) n c) (.int .i64 (kq:Int))).run Tryz.prog W=.ok (.pointer (some ⟨bq,oq+kq * 3,none⟩)) W:=by
 refine (run_indexAt_slice (P:=Tryz.prog) (w:=W) 44 ⟨bq,oq,none⟩ n c .i64 (kq:Int) (by kernel_rfl)).trans ?_
 rw [if_pos ⟨by omega,by omega⟩]
 have hs:(sizeOf (Tryz.prog.elem 44)).run Tryz.prog W=.ok 3 W:=by kernel_rfl
 rw [hs]
 simp [Result.andThen,Addr.add_lit]
open Go.RowKit Go.Sort
def l9pubr (y:Int × Int × Int)(L R G B:Nat):RSpec where
 m:=13
 n:=15
 slots:=[3,4,5,6,7,8,9,10,11,12,13,14,100012,100013,100014]
 kills:=[[],[],[],[],[],[],[],[],[],[],[],[],[],[],[12]]
 pres:=[[],[],[],[],[],[],[],[],[],[],[],[],[],[],[]]
 fact:=fun k v w=>match k with
  | 0=>v=.pointer (some ⟨G,0,none⟩)
  | 1=>v=.int .i64 y.1
  | 2=>∃ a1 n1 c1 k1 m1 e1,v=.agg #[.int .i64 (numI y.1).cls,.int .i64 (numI y.1).tag,.bool (numI y.1).cons,.slice a1 n1 c1,.slice k1 m1 e1]∧ItZ L R 1 w (numI y.1) a1 n1 c1 k1 m1 e1∧L≤G∧G+1<R
  | 3=>v=.pointer (some ⟨G,1,none⟩)
  | 4=>v=.int .u64 y.2.1
  | 5=>∃ q0 d0,v=.slice q0 8 d0∧OwnT R w q0 8 d0 (eightI y.2.1)∧L≤G∧G+1<R
  | 6=>∃ a2 n2 c2 k2 m2 e2,v=.agg #[.int .i64 (bytI (eightI y.2.1)).cls,.int .i64 (bytI (eightI y.2.1)).tag,.bool (bytI (eightI y.2.1)).cons,.slice a2 n2 c2,.slice k2 m2 e2]∧ItZ L R 1 w (bytI (eightI y.2.1)) a2 n2 c2 k2 m2 e2∧L≤G∧G+1<R
  | 7=>v=.pointer (some ⟨G,2,none⟩)
  | 8=>v=.int .i64 y.2.2
  | 9=>∃ a3 n3 c3 k3 m3 e3,v=.agg #[.int .i64 (numI y.2.2).cls,.int .i64 (numI y.2.2).tag,.bool (numI y.2.2).cons,.slice a3 n3 c3,.slice k3 m3 e3]∧ItZ L R 1 w (numI y.2.2) a3 n3 c3 k3 m3 e3∧L≤G∧G+1<R
  | 10=>∃ gr,v=.slice (some ⟨gr,0,none⟩) 3 3∧KidZ L R w gr 2 [numI y.1,bytI (eightI y.2.1),numI y.2.2]∧L≤G∧G+1<R
  | 11=>∃ a0 n0 c0 k0 m0 e0,v=.agg #[.int .i64 (kyI y).cls,.int .i64 (kyI y).tag,.bool (kyI y).cons,.slice a0 n0 c0,.slice k0 m0 e0]∧ItZ L R 2 w (kyI y) a0 n0 c0 k0 m0 e0∧L≤G∧G+1<R
  | 12=>∃ a0 n0 c0 k0 m0 e0,w.heap[(G+1)]? = some (.cells #[.int .i64 (kyI y).cls,.int .i64 (kyI y).tag,.bool (kyI y).cons,.slice a0 n0 c0,.slice k0 m0 e0] 75 (0,0))∧ItZ L R 2 w (kyI y) a0 n0 c0 k0 m0 e0∧L≤G∧G+1<R
  | 13=>w.heap[G]? = some (.cells #[.int .i64 y.1,.int .u64 y.2.1,.int .i64 y.2.2] 41 (0,0))
  | _=>w.heap[(G+1)]? = some (.cells #[.int .i64 0,.int .i64 0,.bool false,.slice none 0 0,.slice none 0 0] 75 (0,0))
theorem l9pubr_stb (y:Int × Int × Int)(L R G B:Nat)(k:Nat)(hk:k<15):StB ((l9pubr y L R G (B)).fact k):=by
 match k,hk with
 | 0,_=>exact fun _ _ _ h _=>h
 | 1,_=>exact fun _ _ _ h _=>h
 | 2,_=>exact fun _ _ _ ⟨a1,n1,c1,k1,m1,e1,hv,q_0,q_1⟩ hb=>⟨a1,n1,c1,k1,m1,e1,hv,q_0.kept hb,q_1⟩
 | 3,_=>exact fun _ _ _ h _=>h
 | 4,_=>exact fun _ _ _ h _=>h
 | 5,_=>exact fun _ _ _ ⟨q0,d0,hv,q_0,q_1⟩ hb=>⟨q0,d0,hv,q_0.kept hb,q_1⟩
 | 6,_=>exact fun _ _ _ ⟨a2,n2,c2,k2,m2,e2,hv,q_0,q_1⟩ hb=>⟨a2,n2,c2,k2,m2,e2,hv,q_0.kept hb,q_1⟩
 | 7,_=>exact fun _ _ _ h _=>h
 | 8,_=>exact fun _ _ _ h _=>h
 | 9,_=>exact fun _ _ _ ⟨a3,n3,c3,k3,m3,e3,hv,q_0,q_1⟩ hb=>⟨a3,n3,c3,k3,m3,e3,hv,q_0.kept hb,q_1⟩
 | 10,_=>exact fun _ _ _ ⟨gr,hv,q_0,q_1⟩ hb=>⟨gr,hv,q_0.kept hb,q_1⟩
 | 11,_=>exact fun _ _ _ ⟨a0,n0,c0,k0,m0,e0,hv,q_0,q_1⟩ hb=>⟨a0,n0,c0,k0,m0,e0,hv,q_0.kept hb,q_1⟩
 | 12,_=>exact fun _ _ _ ⟨a0,n0,c0,k0,m0,e0,q_0,q_1,q_2⟩ hb=>⟨a0,n0,c0,k0,m0,e0,below_kept q_0 hb,q_1.kept hb,q_2⟩
 | 13,_=>exact fun _ _ _ q_0 hb=>below_kept q_0 hb
 | 14,_=>exact fun _ _ _ q_0 hb=>below_kept q_0 hb
 | k+15,hk=>omega
theorem l9pubr_st12 (y:Int × Int × Int)(L R G B:Nat){W W2:World}{cs:Array Value}{fr:Nat × Nat}(hg:W.heap[(G+1)]? = some (.cells cs 75 fr))(ht:Touch ((G+1)) ((G+1)+1) W W2)(k:Nat)(hk:k<15)(hne:k≠12)(hkill:12∉(l9pubr y L R G (B)).kill k)(v:Value)(hfact:(l9pubr y L R G (B)).fact k v W):(l9pubr y L R G (B)).fact k v W2:=by
 match k,hk,hne,hkill,hfact with
 | 0,_,_,_,hq=>exact hq
 | 1,_,_,_,hq=>exact hq
 | 2,_,_,_,⟨a1,n1,c1,k1,m1,e1,hv,q_0,q_1⟩=>exact ⟨a1,n1,c1,k1,m1,e1,hv,q_0.touched ht (by omega),q_1⟩
 | 3,_,_,_,hq=>exact hq
 | 4,_,_,_,hq=>exact hq
 | 5,_,_,_,⟨q0,d0,hv,q_0,q_1⟩=>exact ⟨q0,d0,hv,q_0.touched ht (by omega),q_1⟩
 | 6,_,_,_,⟨a2,n2,c2,k2,m2,e2,hv,q_0,q_1⟩=>exact ⟨a2,n2,c2,k2,m2,e2,hv,q_0.touched ht (by omega),q_1⟩
 | 7,_,_,_,hq=>exact hq
 | 8,_,_,_,hq=>exact hq
 | 9,_,_,_,⟨a3,n3,c3,k3,m3,e3,hv,q_0,q_1⟩=>exact ⟨a3,n3,c3,k3,m3,e3,hv,q_0.touched ht (by omega),q_1⟩
 | 10,_,_,_,⟨gr,hv,q_0,q_1⟩=>exact ⟨gr,hv,q_0.touched ht (by omega),q_1⟩
 | 11,_,_,_,⟨a0,n0,c0,k0,m0,e0,hv,q_0,q_1⟩=>exact ⟨a0,n0,c0,k0,m0,e0,hv,q_0.touched ht (by omega),q_1⟩
 | 12,_,hne,_,_=>exact absurd rfl hne
 | 13,_,_,_,q_0=>exact box_box q_0 hg (by decide) ht
 | 14,_,_,hkill,_=>exact absurd (List.Mem.head _) hkill
 | k+15,hk,_,_,_=>omega
theorem l9Pub_R (y:Int × Int × Int)(L:Nat)(w:World)(hLw:L≤w.heap.size)(hu:U64 y.2.1) :
  Calls Tryz.prog 86 #[.agg #[.int .i64 y.1,.int .u64 y.2.1,.int .i64 y.2.2]] w fun e w'=>ItR L w.heap.size 2 (kyI y) e w'∧Below w.heap.size w w':=by
 obtain ⟨w1,hw1⟩:∃ w1,w1=(w.alloc (.cells #[.int .i64 y.1,.int .u64 y.2.1,.int .i64 y.2.2] 41)).alloc (.cells #[.int .i64 0,.int .i64 0,.bool false,.slice none 0 0,.slice none 0 0] 75):=⟨_,rfl⟩
 have hbb:Below w.heap.size w w1:=by rw [hw1]; exact ((Below.refl _ _).alloc (Nat.le_refl _) _).alloc (by simp) _
 have HB1:Hid (_∧_):=two_blocks w (.cells #[.int .i64 y.1,.int .u64 y.2.1,.int .i64 y.2.2] 41) (.cells #[.int .i64 0,.int .i64 0,.bool false,.slice none 0 0,.slice none 0 0] 75)
 rw [← hw1] at HB1
 have hsz:w1.heap.size=w.heap.size+2:=by rw [hw1]; simp
 have HGB:L≤w.heap.size∧w.heap.size+1<w1.heap.size:=⟨hLw,by omega⟩
 have HLB:∀ W,Below w.heap.size w1 W→L≤W.heap.size:=fun W hW=>by have:=hW.size; omega
 have HBB:w.heap.size≤w1.heap.size:=hbb.size
 have HW:Hid (_=_):=hw1
 clear hw1
 go_enter Tryz.func86,Tryz.ntmps86
 go_upto_region 1 with fail
 rw [← HW.out]
 clear HW
 refine wp_region_ri (l9pubr y L w1.heap.size w.heap.size (w.heap.size)) [3,4,5,6,7,8,9,10,11,12,13,14] (w.heap.size) (fun a0=>a0.tmps.size=15∧aT a0 1=.pointer (some ⟨w.heap.size,0,none⟩)∧aT a0 2=.pointer (some ⟨(w.heap.size+1),0,none⟩)) (by kernel_rfl) rfl (by kernel_rfl) rfl ⟨rfl,rfl,rfl⟩ (l9pubr_stb y L w1.heap.size w.heap.size (w.heap.size)) ?_ ?_ ?_
 ·intro k hk hk2
  match k,hk,hk2 with
  | 13,_,_=>exact HB1.out.1
  | 14,_,_=>exact HB1.out.2
  | 0,hk,_=>exact absurd hk (by show ¬ (13≤0); omega)
  | 1,hk,_=>exact absurd hk (by show ¬ (13≤1); omega)
  | 2,hk,_=>exact absurd hk (by show ¬ (13≤2); omega)
  | 3,hk,_=>exact absurd hk (by show ¬ (13≤3); omega)
  | 4,hk,_=>exact absurd hk (by show ¬ (13≤4); omega)
  | 5,hk,_=>exact absurd hk (by show ¬ (13≤5); omega)
  | 6,hk,_=>exact absurd hk (by show ¬ (13≤6); omega)
  | 7,hk,_=>exact absurd hk (by show ¬ (13≤7); omega)
  | 8,hk,_=>exact absurd hk (by show ¬ (13≤8); omega)
  | 9,hk,_=>exact absurd hk (by show ¬ (13≤9); omega)
  | 10,hk,_=>exact absurd hk (by show ¬ (13≤10); omega)
  | 11,hk,_=>exact absurd hk (by show ¬ (13≤11); omega)
  | 12,hk,_=>exact absurd hk (by show ¬ (13≤12); omega)
  | k+15,_,hk2=>exact absurd hk2 (by show ¬ (k+15<15); omega)
 ·rintro a0 ⟨hz,g1,g2⟩
  refine StepsRI.cons ?_ (StepsRI.cons ?_ (StepsRI.cons ?_ (StepsRI.cons ?_ (StepsRI.cons ?_ (StepsRI.cons ?_ (StepsRI.cons ?_ (StepsRI.cons ?_ (StepsRI.cons ?_ (StepsRI.cons ?_ (StepsRI.cons ?_ (StepsRI.cons ?_ (StepsRI.cons ?_ (StepsRI.nil)))))))))))))
  ·intro lQ b W hI hUN hED KQ hKQ
   exact opw_field 41 1 0 rfl _ ((hI.fr.same 1 (by decide)).trans g1) _ (by kernel_rfl) (hKQ.out _ _ (hI.put 0 3 rfl rfl (by rw [hz]; decide) rfl hUN rfl HBB (l9pubr_stb y L w1.heap.size w.heap.size (w.heap.size)) (Below.refl _ _) rfl))
  ·intro lQ b W hI hUN hED KQ hKQ
   have f:=hI.got 0 (of_decide_eq_true rfl) (edge hED 0 (by kernel_rfl)) rfl
   have hg:=(hI.vot 13 (of_decide_eq_true rfl) (of_decide_eq_true rfl) rfl)
   have hc:W.cell? ⟨w.heap.size,0,none⟩=some (.int .i64 y.1):=(cell_of_row _ _ 0 _ _ (0,0) hg).trans rfl
   exact opw_load1 2 3 rfl _ f _ (by simp [Instr.loadAt,go_sem,hc]) (hKQ.out _ _ (hI.put 1 4 rfl rfl (by rw [hz]; decide) rfl hUN rfl HBB (l9pubr_stb y L w1.heap.size w.heap.size (w.heap.size)) (Below.refl _ _) rfl))
  ·intro lQ b W hI hUN hED KQ hKQ
   have f0:aT b 4=.int .i64 y.1:=hI.got 1 (of_decide_eq_true rfl) (edge hED 1 (by kernel_rfl)) rfl
   refine opw_call 81 #[.tmp 4] _ _ _ rfl Tryz.func81 (by kernel_rfl) rfl #[.int .i64 y.1] (by simp [ev,f0]) ?_
   refine (l9Num_R y.1 L W).mono ?_
   rintro r W2 ⟨⟨a1,n1,c1,k1,m1,e1,rfl,hzI⟩,hb⟩
   exact ⟨_,rfl,hKQ.out _ _ (hI.put 2 5 rfl rfl (by rw [hz]; decide) rfl hUN rfl HBB (l9pubr_stb y L w1.heap.size w.heap.size (w.heap.size)) hb ⟨a1,n1,c1,k1,m1,e1,rfl,((hzI.mono hI.bel.size).le (by decide)),HGB⟩)⟩
  ·intro lQ b W hI hUN hED KQ hKQ
   exact opw_field 41 1 1 rfl _ ((hI.fr.same 1 (by decide)).trans g1) _ (by kernel_rfl) (hKQ.out _ _ (hI.put 3 6 rfl rfl (by rw [hz]; decide) rfl hUN rfl HBB (l9pubr_stb y L w1.heap.size w.heap.size (w.heap.size)) (Below.refl _ _) rfl))
  ·intro lQ b W hI hUN hED KQ hKQ
   have f:=hI.got 3 (of_decide_eq_true rfl) (edge hED 3 (by kernel_rfl)) rfl
   have hg:=(hI.vot 13 (of_decide_eq_true rfl) (of_decide_eq_true rfl) rfl)
   have hc:W.cell? ⟨w.heap.size,1,none⟩=some (.int .u64 y.2.1):=(cell_of_row _ _ 1 _ _ (0,0) hg).trans rfl
   exact opw_load1 25 6 rfl _ f _ (by simp [Instr.loadAt,go_sem,hc]) (hKQ.out _ _ (hI.put 4 7 rfl rfl (by rw [hz]; decide) rfl hUN rfl HBB (l9pubr_stb y L w1.heap.size w.heap.size (w.heap.size)) (Below.refl _ _) rfl))
  ·intro lQ b W hI hUN hED KQ hKQ
   have f0:aT b 7=.int .u64 y.2.1:=hI.got 4 (of_decide_eq_true rfl) (edge hED 4 (by kernel_rfl)) rfl
   refine opw_call 138 #[.tmp 7] _ _ _ rfl Tryz.func138 (by kernel_rfl) rfl #[.int .u64 y.2.1] (by simp [ev,f0]) ?_
   refine (l1Eight_any y.2.1 W hu.1 hu.2).mono ?_
   rintro r W2 ⟨q0,d0,rfl,ho,hb⟩
   exact ⟨_,rfl,hKQ.out _ _ (hI.put 5 8 rfl rfl (by rw [hz]; decide) rfl hUN rfl HBB (l9pubr_stb y L w1.heap.size w.heap.size (w.heap.size)) hb ⟨q0,d0,rfl,⟨ho.mono hI.bel.size⟩,HGB⟩)⟩
  ·intro lQ b W hI hUN hED KQ hKQ
   obtain ⟨q0,d0,f0,o0,_⟩:=hI.got 5 (of_decide_eq_true rfl) (edge hED 5 (by kernel_rfl)) rfl
   replace f0:aT b 8=.slice q0 8 d0:=f0
   refine opw_call 83 #[.tmp 8] _ _ _ rfl Tryz.func83 (by kernel_rfl) rfl #[.slice q0 8 d0] (by simp [ev,f0]) ?_
   refine (l9Bytes_R q0 8 d0 (eightI y.2.1) L W o0.own.toRow o0.own.nil (by decide)).mono ?_
   rintro r W2 ⟨⟨a2,n2,c2,k2,m2,e2,rfl,hzI⟩,hb⟩
   exact ⟨_,rfl,hKQ.out _ _ (hI.put 6 9 rfl rfl (by rw [hz]; decide) rfl hUN rfl HBB (l9pubr_stb y L w1.heap.size w.heap.size (w.heap.size)) hb ⟨a2,n2,c2,k2,m2,e2,rfl,hzI.mono hI.bel.size,HGB⟩)⟩
  ·intro lQ b W hI hUN hED KQ hKQ
   exact opw_field 41 1 2 rfl _ ((hI.fr.same 1 (by decide)).trans g1) _ (by kernel_rfl) (hKQ.out _ _ (hI.put 7 10 rfl rfl (by rw [hz]; decide) rfl hUN rfl HBB (l9pubr_stb y L w1.heap.size w.heap.size (w.heap.size)) (Below.refl _ _) rfl))
  ·intro lQ b W hI hUN hED KQ hKQ
   have f:=hI.got 7 (of_decide_eq_true rfl) (edge hED 7 (by kernel_rfl)) rfl
   have hg:=(hI.vot 13 (of_decide_eq_true rfl) (of_decide_eq_true rfl) rfl)
   have hc:W.cell? ⟨w.heap.size,2,none⟩=some (.int .i64 y.2.2):=(cell_of_row _ _ 2 _ _ (0,0) hg).trans rfl
   exact opw_load1 2 10 rfl _ f _ (by simp [Instr.loadAt,go_sem,hc]) (hKQ.out _ _ (hI.put 8 11 rfl rfl (by rw [hz]; decide) rfl hUN rfl HBB (l9pubr_stb y L w1.heap.size w.heap.size (w.heap.size)) (Below.refl _ _) rfl))
  ·intro lQ b W hI hUN hED KQ hKQ
   have f0:aT b 11=.int .i64 y.2.2:=hI.got 8 (of_decide_eq_true rfl) (edge hED 8 (by kernel_rfl)) rfl
   refine opw_call 81 #[.tmp 11] _ _ _ rfl Tryz.func81 (by kernel_rfl) rfl #[.int .i64 y.2.2] (by simp [ev,f0]) ?_
   refine (l9Num_R y.2.2 L W).mono ?_
   rintro r W2 ⟨⟨a3,n3,c3,k3,m3,e3,rfl,hzI⟩,hb⟩
   exact ⟨_,rfl,hKQ.out _ _ (hI.put 9 12 rfl rfl (by rw [hz]; decide) rfl hUN rfl HBB (l9pubr_stb y L w1.heap.size w.heap.size (w.heap.size)) hb ⟨a3,n3,c3,k3,m3,e3,rfl,((hzI.mono hI.bel.size).le (by decide)),HGB⟩)⟩
  ·intro lQ b W hI hUN hED KQ hKQ
   obtain ⟨a1,n1,c1,k1,m1,e1,f1,o1,_⟩:=hI.got 2 (of_decide_eq_true rfl) (edge hED 2 (by kernel_rfl)) rfl
   replace f1:aT b 5=.agg #[.int .i64 (numI y.1).cls,.int .i64 (numI y.1).tag,.bool (numI y.1).cons,.slice a1 n1 c1,.slice k1 m1 e1]:=f1
   obtain ⟨a2,n2,c2,k2,m2,e2,f2,o2,_⟩:=hI.got 6 (of_decide_eq_true rfl) (edge hED 6 (by kernel_rfl)) rfl
   replace f2:aT b 9=.agg #[.int .i64 (bytI (eightI y.2.1)).cls,.int .i64 (bytI (eightI y.2.1)).tag,.bool (bytI (eightI y.2.1)).cons,.slice a2 n2 c2,.slice k2 m2 e2]:=f2
   obtain ⟨a3,n3,c3,k3,m3,e3,f3,o3,_⟩:=hI.got 9 (of_decide_eq_true rfl) (edge hED 9 (by kernel_rfl)) rfl
   replace f3:aT b 12=.agg #[.int .i64 (numI y.2.2).cls,.int .i64 (numI y.2.2).tag,.bool (numI y.2.2).cons,.slice a3 n3 c3,.slice k3 m3 e3]:=f3
   refine opw_buildSliceT _ 3 _ rfl #[(0,.agg #[.int .i64 (numI y.1).cls,.int .i64 (numI y.1).tag,.bool (numI y.1).cons,.slice a1 n1 c1,.slice k1 m1 e1]),(1,.agg #[.int .i64 (bytI (eightI y.2.1)).cls,.int .i64 (bytI (eightI y.2.1)).tag,.bool (bytI (eightI y.2.1)).cons,.slice a2 n2 c2,.slice k2 m2 e2]),(2,.agg #[.int .i64 (numI y.2.2).cls,.int .i64 (numI y.2.2).tag,.bool (numI y.2.2).cons,.slice a3 n3 c3,.slice k3 m3 e3])] (by simp [ev,f1,f2,f3]) (.slice (some ⟨W.heap.size,0,none⟩) 3 3) (W.alloc (.cells #[.int .i64 (numI y.1).cls,.int .i64 (numI y.1).tag,.bool (numI y.1).cons,.slice a1 n1 c1,.slice k1 m1 e1,.int .i64 (bytI (eightI y.2.1)).cls,.int .i64 (bytI (eightI y.2.1)).tag,.bool (bytI (eightI y.2.1)).cons,.slice a2 n2 c2,.slice k2 m2 e2,.int .i64 (numI y.2.2).cls,.int .i64 (numI y.2.2).tag,.bool (numI y.2.2).cons,.slice a3 n3 c3,.slice k3 m3 e3] 75)) (by kernel_rfl) ?_
   exact hKQ.out _ _ (hI.put 10 13 rfl rfl (by rw [hz]; decide) rfl hUN rfl HBB (l9pubr_stb y L w1.heap.size w.heap.size (w.heap.size)) ((Below.refl _ _).alloc (Nat.le_refl _) _) ⟨W.heap.size,rfl,kidZ_n3 hI.bel.size o1 o2 o3,HGB⟩)
  ·intro lQ b W hI hUN hED KQ hKQ
   obtain ⟨gr,f0,o0,_⟩:=hI.got 10 (of_decide_eq_true rfl) (edge hED 10 (by kernel_rfl)) rfl
   replace f0:aT b 13=.slice (some ⟨gr,0,none⟩) 3 3:=f0
   refine opw_call 80 #[.tmp 13] _ _ _ rfl Tryz.func80 (by kernel_rfl) rfl #[.slice (some ⟨gr,0,none⟩) 3 3] (by simp [ev,f0]) ?_
   refine (l9Struct_R o0 rfl).mono ?_
   rintro r W2 ⟨⟨a0,n0,c0,k0,m0,e0,rfl,hzI⟩,hb⟩
   exact ⟨_,rfl,hKQ.out _ _ (hI.put 11 14 rfl rfl (by rw [hz]; decide) rfl hUN rfl HBB (l9pubr_stb y L w1.heap.size w.heap.size (w.heap.size)) hb ⟨a0,n0,c0,k0,m0,e0,rfl,hzI,HGB⟩)⟩
  ·intro lQ b W hI hUN hED KQ hKQ
   have hgb:=(hI.vot1 14 12 (of_decide_eq_true rfl) (of_decide_eq_true rfl) hUN rfl)
   have fb:=((hI.fr.same 2 (by decide)).trans g2)
   have f:=hI.got 11 (of_decide_eq_true rfl) (edge hED 11 (by kernel_rfl)) rfl
   obtain ⟨a0,n0,c0,k0,m0,e0,f,o_0,o_1⟩:=f
   refine wp_store_row 75 _ _ rfl ((w.heap.size+1)) #[.int .i64 (kyI y).cls,.int .i64 (kyI y).tag,.bool (kyI y).cons,.slice a0 n0 c0,.slice k0 m0 e0] fb f 75 _ hgb (by kernel_rfl) rfl (by simp [Value.oneCell']) ?_
   have ht:=setRow_touch W ((w.heap.size+1)) #[.int .i64 (kyI y).cls,.int .i64 (kyI y).tag,.bool (kyI y).cons,.slice a0 n0 c0,.slice k0 m0 e0]
   exact hKQ.out _ _ (hI.store 12 (fun j hj=>by cases hj) (hI.bel.trans (ht.below (by first | exact HGE2 | omega) (Nat.le_trans HBB hI.bel.size))) (l9pubr_st12 y L w1.heap.size w.heap.size (w.heap.size) hgb ht) ⟨a0,n0,c0,k0,m0,e0,(setRow_heap W ((w.heap.size+1)) _ _ _ _ hgb),o_0.touched ht (by omega),o_1⟩)
 ·intro b W hf hb F
  obtain ⟨a0,n0,c0,k0,m0,e0,hbx,hz,_⟩:=F 12 (of_decide_eq_true rfl) rfl
  rw [hf.eq]
  simp only [puts,Act.put,List.setIfInBounds_toArray,List.set_cons_zero,List.set_cons_succ]
  clear hf F
  generalize aT b=AT
  clear b
  go_wp2
  try simp only [Exit.inBlock,Exit.then]
  exact bodyPost_ret (results_it rfl _ (w.heap.size+1) rfl _ _ _ _ _ _ hbx) rfl ⟨⟨a0,n0,c0,k0,m0,e0,rfl,hz.mono hbb.size⟩,hbb.trans hb⟩
theorem NumS_next (xs:List Int)(k:Nat)(h:k<xs.length):(xs.take (k+1)).map numI=(xs.take k).map numI++[numI (xs.getD k 0)]:=by
 rw [List.take_add_one,List.map_append]
 simp [h]
theorem l9NumList_R (a:Option Addr)(n c:Nat)(xs:List Int)(L:Nat)(w:World)(hLw:L≤w.heap.size)(h:Row64 w a n xs)(hn:n≤1000) :
  Calls Tryz.prog 88 #[.slice a n c] w fun e w'=>ItR L w.heap.size 2 (lstI (xs.map numI)) e w'∧Below w.heap.size w w':=by
 obtain ⟨i0,hi,hz0,hz1,hz2⟩:=info_parts Tryz.infoIt
 have hbx:=box5_below w
 have hsz:=box5_size w
 have HB5:Hid (_=_):=box5_new w
 obtain ⟨w1,hw1⟩:∃ w1,w1=box5 w:=⟨_,rfl⟩
 rw [← hw1] at hbx hsz HB5
 have HW:Hid (w1=w.alloc (.cells #[.int .i64 0,.int .i64 0,.bool false,.slice none 0 0,.slice none 0 0] 75)):=hw1
 have H0:Hid (Row64 w1 a n xs):=h.kept hbx
 have HLX:Hid (xs.length=n):=h.len
 have hbE:Below w1.heap.size w1 (w1.alloc (.cells #[] 75)):=(Below.refl _ _).alloc (Nat.le_refl _) _
 have HO0:Hid (OwnItZ 1 L w1.heap.size (w1.alloc (.cells #[] 75)) (some ⟨w1.heap.size,0,none⟩) 0 0 ((xs.take 0).map numI)):=ownItZ_empty 1 L w1
 have hszl:w.heap.size<w1.heap.size:=by omega
 clear h hw1 hsz
 go_enter Tryz.func88,Tryz.ntmps88
 go_upto_region 1 with fail
 rw [← HW.out]
 clear HW
 go_wp2
 go_loopw [3,4] (fun o i wr=>∃ (k:Nat) (ao:Option Addr) (cc:Nat),k≤n∧i=.int .i64 k∧o=.slice ao k cc∧Hid (OwnItZ 1 L w1.heap.size wr ao k cc ((xs.take k).map numI))∧Below w1.heap.size w1 wr) (fun _ i _=>n - (intOf i).toNat)
 case atStart=>exact ⟨0,_,0,Nat.zero_le _,rfl,rfl,HO0,hbE⟩
 case round =>
  obtain ⟨k,ao,cc,hk,rfl,rfl,HO,hbr⟩:=hrel
  have hws:=hbr.size
  by_cases hlt:k<n
  ·obtain ⟨b,off,rfl,hlb,e0⟩:=H0.out.get k hlt
   obtain ⟨y,hy⟩:∃ y,y=xs.getD k 0:=⟨_,rfl⟩
   rw [← hy] at e0
   obtain ⟨z,hz⟩:∃ z,z=numI y:=⟨_,rfl⟩
   have HXK:Hid ((xs.take (k+1)).map numI=(xs.take k).map numI++[z]):=by show _=_; rw [hz,hy]; exact NumS_next xs k (by rw [HLX.out]; exact hlt)
   have c0:=(hbr.cell (p:=⟨b,off+k,none⟩) hlb).trans e0
   have hkni:(k:Int)<(n:Int):=by omega
   have hbw:b<wr.heap.size:=by omega
   have HCON:Hid (Calls Tryz.prog 81 #[.int .i64 y] wr fun e w'=>ItR L wr.heap.size 1 z e w'∧Below wr.heap.size wr w'):=by rw [hz]; exact l9Num_R y L wr
   clear hy hz e0
   go_wp2_with fail
   refine HCON.out.mono ?_
   rintro e w2 ⟨⟨ab,nb,cb,ak,nk,ck,rfl,hit⟩,hb2⟩
   have B2:Below w1.heap.size w1 w2:=hbr.trans (hb2.mono hws)
   have hal:Below w2.heap.size w2 (w2.alloc (.cells #[.int .i64 z.cls,.int .i64 z.tag,.bool z.cons,.slice ab nb cb,.slice ak nk ck] 75)):=(Below.refl _ _).alloc (Nat.le_refl _) _
   have B6:Below w1.heap.size w1 (w2.alloc (.cells #[.int .i64 z.cls,.int .i64 z.tag,.bool z.cons,.slice ab nb cb,.slice ak nk ck] 75)):=B2.trans (hal.mono B2.size)
   have hs6:(w2.alloc (.cells #[.int .i64 z.cls,.int .i64 z.tag,.bool z.cons,.slice ab nb cb,.slice ak nk ck] 75)).heap.size=w2.heap.size+1:=by simp
   have hs2:=hb2.size
   have HQ3:Hid (OwnItZ 1 L w1.heap.size (w2.alloc (.cells #[.int .i64 z.cls,.int .i64 z.tag,.bool z.cons,.slice ab nb cb,.slice ak nk ck] 75)) ao k cc ((xs.take k).map numI)):=(HO.out.kept hb2).kept hal
   obtain ⟨vs,hrow⟩:=HQ3.out.row
   have HROW:Hid (_):=hrow
   have hown:∀ b,(Value.slice ao k cc).ownBlock=some b→w1.heap.size≤b∧b<wr.heap.size:=fun b hb=>by obtain ⟨vs0,hv0⟩:=HO.out.row; exact ⟨HO.out.2 b hb,(hv0.lt b hb).2⟩
   have HAPP:Hid (∀ g7 c7 w7,w7.ownsRow 0 75 5 (.slice (some ⟨g7,0,none⟩) (k+1) c7) (k+1) (vs++itc z ab nb cb ak nk ck)→(w2.alloc (.cells #[.int .i64 z.cls,.int .i64 z.tag,.bool z.cons,.slice ab nb cb,.slice ak nk ck] 75)).grownBy w7 (Value.slice ao k cc).ownBlock→((Value.slice ao k cc).ownBlock=some g7∨g7=w2.heap.size+1)→OwnItZ 1 L w1.heap.size w7 (some ⟨g7,0,none⟩) (k+1) c7 ((xs.take (k+1)).map numI)∧Below w1.heap.size w1 w7):=by
    intro g7 c7 w7 hv7 hg7 hl7
    have hit2:=hit.kept hal
    rw [HXK.out]
    refine ⟨HQ3.out.appended hit2.it (fun b hb=>⟨by have:=hb.1; omega,hb.2,fun e=>by have:=hown b e; have:=hb.1; omega⟩) (by omega) HROW.out hv7 hg7 (by rw [hs6]; exact hl7) B6.size,B6.grown hg7 (by have:=B6.size; omega) (fun kx hx=>HQ3.out.2 kx hx)⟩
   clear c0 hrow HO hb2 B2 hal hit HCON
   go_wp2_with (at_builtin; refine wpList_append_lies _ rfl (.tmp 12) (.tmp 18) 73 rfl 0 75 i0 _ 5 72 Tryz.underlying73 hi hz0 hz1 hz2 rfl (by decide) _ k vs rfl HROW.out ⟨w2.heap.size,0,none⟩ 1 1 [.int .i64 z.cls,.int .i64 z.tag,.bool z.cons,.slice ab nb cb,.slice ak nk ck] rfl rfl (World.news_of_block (heap_alloc_new w2 (.cells #[.int .i64 z.cls,.int .i64 z.tag,.bool z.cons,.slice ab nb cb,.slice ak nk ck] 75))) (by intro u hu; simp only [List.mem_cons,List.not_mem_nil,or_false] at hu; rcases hu with rfl | rfl | rfl | rfl | rfl <;> rfl) (by decide) (by unfold maxLen; omega) (by omega) (Nat.zero_le _) (w2.heap.size+1) (by simp) ?_; intro g7 c7 w7 hv7 hg7 hl7 hlt7; have HN7:=HAPP.out g7 c7 w7 hv7 hg7 hl7; have HO7:Hid (_):=HN7.1; have B7:=HN7.2; clear hv7 hg7 hl7 hlt7 HN7 HAPP HQ3 HROW)
   go_roundw
   case rel=>exact ⟨k+1,_,c7,by omega,by go_num,rfl,HO7,B7⟩
   case measure=>simp [intOf]; omega
  ·obtain rfl:k=n:=by omega
   have HX:Hid (xs.take k=xs):=by show _=_; rw [List.take_of_length_le (by rw [HLX.out]; exact Nat.le_refl _)]
   have hL9:ListZ L w1.heap.size 2 wr ao k (xs.map numI):=⟨by
    have:=HO.out.kids
    rw [HX.out] at this
    exact this⟩
   have HLL:Hid (Calls Tryz.prog 89 #[.slice ao k cc] wr fun e w'=>ItR L w1.heap.size 2 (lstI (xs.map numI)) e w'∧Below wr.heap.size wr w'):=l9List_R hL9
   clear hL9
   go_wp2_with fail
   refine HLL.out.mono ?_
   rintro e w2 ⟨⟨ab,nb,cb,ak,nk,ck,rfl,hit⟩,hb2⟩
   have HIT:Hid (_):=hit
   have B2:Below w1.heap.size w1 w2:=hbr.trans (hb2.mono hws)
   have h5:=below_kept HB5.out B2
   obtain ⟨_,q0,q1,q2,q3,q4,q5,q6,q7,q8,q9⟩:=Box5.of h5
   have H5:Hid (_=_):=h5
   have B3:Below w.heap.size w w2:=keepT hbx B2
   clear h5 hb2 hit HLL
   go_wp2_with fail
   try simp only [Exit.inBlock,Exit.then]
   have T:=put5_touch w2 w.heap.size (.int .i64 (lstI (xs.map numI)).cls) (.int .i64 (lstI (xs.map numI)).tag) (.bool (lstI (xs.map numI)).cons) (.slice ab nb cb) (.slice ak nk ck)
   exact bodyPost_ret (results_it rfl _ w.heap.size rfl _ _ _ _ _ _ (put5_heap H5.out _ _ _ _ _)) rfl ⟨⟨_,_,_,_,_,_,rfl,HIT.out.put hLw (by omega) _ _ _ _ _⟩,B3.trans (T.below (Nat.le_refl _) B3.size)⟩
end Go.Proofs.YtmdfbnlgfhjnoaaGreatDoor
