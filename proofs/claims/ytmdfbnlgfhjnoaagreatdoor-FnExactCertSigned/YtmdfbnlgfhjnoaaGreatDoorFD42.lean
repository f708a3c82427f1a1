import Derived.Test.YtmdfbnlgfhjnoaaGreatDoorFD41
set_option maxRecDepth 10000
set_option maxHeartbeats 8000000
set_option linter.unusedVariables false
namespace Go.Proofs.YtmdfbnlgfhjnoaaGreatDoor
open Go.RowKit Go.Sort
def l9pubr (y:Int × Int × Int)(L R G B:Nat):RSpec where
 m:=13
 n:=15
 slots:=[3,4,5,6,7,8,9,10,11,12,13,14,100012,100013,100014]
 kills:=[[],[],[],[],[],[],[],[],[],[],[],[],[],[],[12]]
 pres:=[[],[],[],[],[],[],[],[],[],[],[],[],[],[],[]]
 fact:=fun k v w=>match k with
  | 0=>v=.pointer (some ⟨G,0,none⟩)
  | 1=>v=.int .i64 y.1
  | 2=>∃ a1 n1 c1 k1 m1 e1,v=.agg #[.int .i64 (numI y.1).cls,.int .i64 (numI y.1).tag,.bool (numI y.1).cons,.slice a1 n1 c1,.slice k1 m1 e1]∧ItZ L R 1 w (numI y.1) a1 n1 c1 k1 m1 e1∧L≤G∧G+1<R
  | 3=>v=.pointer (some ⟨G,1,none⟩)
  | 4=>v=.int .u64 y.2.1
  | 5=>∃ q0 d0,v=.slice q0 8 d0∧OwnT R w q0 8 d0 (eightI y.2.1)∧L≤G∧G+1<R
  | 6=>∃ a2 n2 c2 k2 m2 e2,v=.agg #[.int .i64 (bytI (eightI y.2.1)).cls,.int .i64 (bytI (eightI y.2.1)).tag,.bool (bytI (eightI y.2.1)).cons,.slice a2 n2 c2,.slice k2 m2 e2]∧ItZ L R 1 w (bytI (eightI y.2.1)) a2 n2 c2 k2 m2 e2∧L≤G∧G+1<R
  | 7=>v=.pointer (some ⟨G,2,none⟩)
  | 8=>v=.int .i64 y.2.2
  | 9=>∃ a3 n3 c3 k3 m3 e3,v=.agg #[.int .i64 (numI y.2.2).cls,.int .i64 (numI y.2.2).tag,.bool (numI y.2.2).cons,.slice a3 n3 c3,.slice k3 m3 e3]∧ItZ L R 1 w (numI y.2.2) a3 n3 c3 k3 m3 e3∧L≤G∧G+1<R
  | 10=>∃ gr,v=.slice (some ⟨gr,0,none⟩) 3 3∧KidZ L R w gr 2 [numI y.1,bytI (eightI y.2.1),numI y.2.2]∧L≤G∧G+1<R
  | 11=>∃ a0 n0 c0 k0 m0 e0,v=.agg #[.int .i64 (kyI y).cls,.int .i64 (kyI y).tag,.bool (kyI y).cons,.slice a0 n0 c0,.slice k0 m0 e0]∧ItZ L R 2 w (kyI y) a0 n0 c0 k0 m0 e0∧L≤G∧G+1<R
  | 12=>∃ a0 n0 c0 k0 m0 e0,w.heap[(G+1)]? = some (.cells #[.int .i64 (kyI y).cls,.int .i64 (kyI y).tag,.bool (kyI y).cons,.slice a0 n0 c0,.slice k0 m0 e0] 75 (0,0))∧ItZ L R 2 w (kyI y) a0 n0 c0 k0 m0 e0∧L≤G∧G+1<R
  | 13=>w.heap[G]? = some (.cells #[.int .i64 y.1,.int .u64 y.2.1,.int .i64 y.2.2] 41 (0,0))
  | _=>w.heap[(G+1)]? = some (.cells #[.int .i64 0,.int .i64 0,.bool false,.slice none 0 0,.slice none 0 0] 75 (0,0))
theorem l9pubr_stb (y:Int × Int × Int)(L R G B:Nat)(k:Nat)(hk:k<15):StB ((l9pubr y L R G (B)).fact k):=by
 match k,hk with
 | 0,_=>exact fun _ _ _ h _=>h
 | 1,_=>exact fun _ _ _ h _=>h
 | 2,_=>exact fun _ _ _ ⟨a1,n1,c1,k1,m1,e1,hv,q_0,q_1⟩ hb=>⟨a1,n1,c1,k1,m1,e1,hv,q_0.kept hb,q_1⟩
 | 3,_=>exact fun _ _ _ h _=>h
 | 4,_=>exact fun _ _ _ h _=>h
 | 5,_=>exact fun _ _ _ ⟨q0,d0,hv,q_0,q_1⟩ hb=>⟨q0,d0,hv,q_0.kept hb,q_1⟩
 | 6,_=>exact fun _ _ _ ⟨a2,n2,c2,k2,m2,e2,hv,q_0,q_1⟩ hb=>⟨a2,n2,c2,k2,m2,e2,hv,q_0.kept hb,q_1⟩
 | 7,_=>exact fun _ _ _ h _=>h
 | 8,_=>exact fun _ _ _ h _=>h
 | 9,_=>exact fun _ _ _ ⟨a3,n3,c3,k3,m3,e3,hv,q_0,q_1⟩ hb=>⟨a3,n3,c3,k3,m3,e3,hv,q_0.kept hb,q_1⟩
 | 10,_=>exact fun _ _ _ ⟨gr,hv,q_0,q_1⟩ hb=>⟨gr,hv,q_0.kept hb,q_1⟩
 | 11,_=>exact fun _ _ _ ⟨a0,n0,c0,k0,m0,e0,hv,q_0,q_1⟩ hb=>⟨a0,n0,c0,k0,m0,e0,hv,q_0.kept hb,q_1⟩
 | 12,_=>exact fun _ _ _ ⟨a0,n0,c0,k0,m0,e0,q_0,q_1,q_2⟩ hb=>⟨a0,n0,c0,k0,m0,e0,below_kept q_0 hb,q_1.kept hb,q_2⟩
 | 13,_=>exact fun _ _ _ q_0 hb=>below_kept q_0 hb
 | 14,_=>exact fun _ _ _ q_0 hb=>below_kept q_0 hb
 | k+15,hk=>omega
theorem l9pubr_st12 (y:Int × Int × Int)(L R G B:Nat){W W2:World}{cs:Array Value}{fr:Nat × Nat}(hg:W.heap[(G+1)]? = some (.cells cs 75 fr))(ht:Touch ((G+1)) ((G+1)+1) W W2)(k:Nat)(hk:k<15)(hne:k≠12)(hkill:12∉(l9pubr y L R G (B)).kill k)(v:Value)(hfact:(l9pubr y L R G (B)).fact k v W):(l9pubr y L R G (B)).fact k v W2:=by
 match k,hk,hne,hkill,hfact with
 | 0,_,_,_,hq=>exact hq
 | 1,_,_,_,hq=>exact hq
 | 2,_,_,_,⟨a1,n1,c1,k1,m1,e1,hv,q_0,q_1⟩=>exact ⟨a1,n1,c1,k1,m1,e1,hv,q_0.touched ht (by omega),q_1⟩
 | 3,_,_,_,hq=>exact hq
 | 4,_,_,_,hq=>exact hq
 | 5,_,_,_,⟨q0,d0,hv,q_0,q_1⟩=>exact ⟨q0,d0,hv,q_0.touched ht (by omega),q_1⟩
 | 6,_,_,_,⟨a2,n2,c2,k2,m2,e2,hv,q_0,q_1⟩=>exact ⟨a2,n2,c2,k2,m2,e2,hv,q_0.touched ht (by omega),q_1⟩
 | 7,_,_,_,hq=>exact hq
 | 8,_,_,_,hq=>exact hq
 | 9,_,_,_,⟨a3,n3,c3,k3,m3,e3,hv,q_0,q_1⟩=>exact ⟨a3,n3,c3,k3,m3,e3,hv,q_0.touched ht (by omega),q_1⟩
 | 10,_,_,_,⟨gr,hv,q_0,q_1⟩=>exact ⟨gr,hv,q_0.touched ht (by omega),q_1⟩
 | 11,_,_,_,⟨a0,n0,c0,k0,m0,e0,hv,q_0,q_1⟩=>exact ⟨a0,n0,c0,k0,m0,e0,hv,q_0.touched ht (by omega),q_1⟩
 | 12,_,hne,_,_=>exact absurd rfl hne
 | 13,_,_,_,q_0=>exact box_box q_0 hg (by decide) ht
 | 14,_,_,hkill,_=>exact absurd (List.Mem.head _) hkill
 | k+15,hk,_,_,_=>omega
theorem l9Pub_R (y:Int × Int × Int)(L:Nat)(w:World)(hLw:L≤w.heap.size)(hu:U64 y.2.1) :
  Calls Tryz.prog 86 #[.agg #[.int .i64 y.1,.int .u64 y.2.1,.int .i64 y.2.2]] w fun e w'=>ItR L w.heap.size 2 (kyI y) e w'∧Below w.heap.size w w':=by
 obtain ⟨w1,hw1⟩:∃ w1,w1=(w.alloc (.cells #[.int .i64 y.1,.int .u64 y.2.1,.int .i64 y.2.2] 41)).alloc (.cells #[.int .i64 0,.int .i64 0,.bool false,.slice none 0 0,.slice none 0 0] 75):=⟨_,rfl⟩
 have hbb:Below w.heap.size w w1:=by rw [hw1]; exact ((Below.refl _ _).alloc (Nat.le_refl _) _).alloc (by simp) _
 have HB1:Hid (_∧_):=two_blocks w (.cells #[.int .i64 y.1,.int .u64 y.2.1,.int .i64 y.2.2] 41) (.cells #[.int .i64 0,.int .i64 0,.bool false,.slice none 0 0,.slice none 0 0] 75)
 rw [← hw1] at HB1
 have hsz:w1.heap.size=w.heap.size+2:=by rw [hw1]; simp
 have HGB:L≤w.heap.size∧w.heap.size+1<w1.heap.size:=⟨hLw,by omega⟩
 have HLB:∀ W,Below w.heap.size w1 W→L≤W.heap.size:=fun W hW=>by have:=hW.size; omega
 have HBB:w.heap.size≤w1.heap.size:=hbb.size
 have HW:Hid (_=_):=hw1
 clear hw1
 go_enter Tryz.func86,Tryz.ntmps86
 go_upto_region 1 with fail
 rw [← HW.out]
 clear HW
 have stb:=l9pubr_stb y L w1.heap.size w.heap.size (w.heap.size)
 refine wp_region_ri (l9pubr y L w1.heap.size w.heap.size (w.heap.size)) [3,4,5,6,7,8,9,10,11,12,13,14] (w.heap.size) (fun a0=>a0.tmps.size=15∧aT a0 1=.pointer (some ⟨w.heap.size,0,none⟩)∧aT a0 2=.pointer (some ⟨(w.heap.size+1),0,none⟩)) (by kernel_rfl) rfl (by kernel_rfl) rfl ⟨rfl,rfl,rfl⟩ stb ?_ ?_ ?_
 ·exact vt2 (m:=13) (HB1.out.1) (HB1.out.2)
 ·rintro a0 ⟨hz,g1,g2⟩
  refine StepsRI.cons ?_ (StepsRI.cons ?_ (StepsRI.cons ?_ (StepsRI.cons ?_ (StepsRI.cons ?_ (StepsRI.cons ?_ (StepsRI.cons ?_ (StepsRI.cons ?_ (StepsRI.cons ?_ (StepsRI.cons ?_ (StepsRI.cons ?_ (StepsRI.cons ?_ (StepsRI.cons ?_ (StepsRI.nil)))))))))))))
  all_goals intro lQ b W hI hUN hED KQ hKQ
  ·exact opw_field 41 1 0 rfl _ ((hI.fr.same 1 (by decide)).trans g1) _ (by kernel_rfl) (hKQ.out _ _ (hI.pu 0 3 hz hUN HBB stb (Below.refl _ _) rfl))
  ·have f:=hI.ge 0 hED
   have hg:=(hI.vo 13)
   have hc:W.cell? ⟨w.heap.size,0,none⟩=some (.int .i64 y.1):=qk hg rfl
   exact opw_load1 2 3 rfl _ f _ (by simp [Instr.loadAt,go_sem,hc]) (hKQ.out _ _ (hI.pu 1 4 hz hUN HBB stb (Below.refl _ _) rfl))
  ·have f0:aT b 4=.int .i64 y.1:=hI.ge 1 hED
   refine opw_c1 81 4 Tryz.func81 f0 ?_
   refine (l9Num_R y.1 L W).mono ?_
   rintro r W2 ⟨⟨a1,n1,c1,k1,m1,e1,rfl,hzI⟩,hb⟩
   exact ⟨_,rfl,hKQ.out _ _ (hI.pu 2 5 hz hUN HBB stb hb ⟨a1,n1,c1,k1,m1,e1,rfl,((hzI.mono hI.bel.size).le (by decide)),HGB⟩)⟩
  ·exact opw_field 41 1 1 rfl _ ((hI.fr.same 1 (by decide)).trans g1) _ (by kernel_rfl) (hKQ.out _ _ (hI.pu 3 6 hz hUN HBB stb (Below.refl _ _) rfl))
  ·have f:=hI.ge 3 hED
   have hg:=(hI.vo 13)
   have hc:W.cell? ⟨w.heap.size,1,none⟩=some (.int .u64 y.2.1):=qk hg rfl
   exact opw_load1 25 6 rfl _ f _ (by simp [Instr.loadAt,go_sem,hc]) (hKQ.out _ _ (hI.pu 4 7 hz hUN HBB stb (Below.refl _ _) rfl))
  ·have f0:aT b 7=.int .u64 y.2.1:=hI.ge 4 hED
   refine opw_c1 138 7 Tryz.func138 f0 ?_
   refine (l1Eight_any y.2.1 W hu.1 hu.2).mono ?_
   rintro r W2 ⟨q0,d0,rfl,ho,hb⟩
   exact ⟨_,rfl,hKQ.out _ _ (hI.pu 5 8 hz hUN HBB stb hb ⟨q0,d0,rfl,⟨ho.mono hI.bel.size⟩,HGB⟩)⟩
  ·obtain ⟨q0,d0,f0,o0,_⟩:=hI.ge 5 hED
   replace f0:aT b 8=_:=f0
   refine opw_c1 83 8 Tryz.func83 f0 ?_
   refine (l9Bytes_R q0 8 d0 (eightI y.2.1) L W o0.own.toRow o0.own.nil (by decide)).mono ?_
   rintro r W2 ⟨⟨a2,n2,c2,k2,m2,e2,rfl,hzI⟩,hb⟩
   exact ⟨_,rfl,hKQ.out _ _ (hI.pu 6 9 hz hUN HBB stb hb ⟨a2,n2,c2,k2,m2,e2,rfl,hzI.mono hI.bel.size,HGB⟩)⟩
  ·exact opw_field 41 1 2 rfl _ ((hI.fr.same 1 (by decide)).trans g1) _ (by kernel_rfl) (hKQ.out _ _ (hI.pu 7 10 hz hUN HBB stb (Below.refl _ _) rfl))
  ·have f:=hI.ge 7 hED
   have hg:=(hI.vo 13)
   have hc:W.cell? ⟨w.heap.size,2,none⟩=some (.int .i64 y.2.2):=qk hg rfl
   exact opw_load1 2 10 rfl _ f _ (by simp [Instr.loadAt,go_sem,hc]) (hKQ.out _ _ (hI.pu 8 11 hz hUN HBB stb (Below.refl _ _) rfl))
  ·have f0:aT b 11=.int .i64 y.2.2:=hI.ge 8 hED
   refine opw_c1 81 11 Tryz.func81 f0 ?_
   refine (l9Num_R y.2.2 L W).mono ?_
   rintro r W2 ⟨⟨a3,n3,c3,k3,m3,e3,rfl,hzI⟩,hb⟩
   exact ⟨_,rfl,hKQ.out _ _ (hI.pu 9 12 hz hUN HBB stb hb ⟨a3,n3,c3,k3,m3,e3,rfl,((hzI.mono hI.bel.size).le (by decide)),HGB⟩)⟩
  ·obtain ⟨a1,n1,c1,k1,m1,e1,f1,o1,_⟩:=hI.ge 2 hED
   replace f1:aT b 5=_:=f1
   obtain ⟨a2,n2,c2,k2,m2,e2,f2,o2,_⟩:=hI.ge 6 hED
   replace f2:aT b 9=_:=f2
   obtain ⟨a3,n3,c3,k3,m3,e3,f3,o3,_⟩:=hI.ge 9 hED
   replace f3:aT b 12=_:=f3
   refine opw_buildSliceT _ 3 _ rfl #[(0,.agg #[.int .i64 (numI y.1).cls,.int .i64 (numI y.1).tag,.bool (numI y.1).cons,.slice a1 n1 c1,.slice k1 m1 e1]),(1,.agg #[.int .i64 (bytI (eightI y.2.1)).cls,.int .i64 (bytI (eightI y.2.1)).tag,.bool (bytI (eightI y.2.1)).cons,.slice a2 n2 c2,.slice k2 m2 e2]),(2,.agg #[.int .i64 (numI y.2.2).cls,.int .i64 (numI y.2.2).tag,.bool (numI y.2.2).cons,.slice a3 n3 c3,.slice k3 m3 e3])] (by simp [ev,f1,f2,f3]) (.slice (some ⟨W.heap.size,0,none⟩) 3 3) (W.alloc (.cells #[.int .i64 (numI y.1).cls,.int .i64 (numI y.1).tag,.bool (numI y.1).cons,.slice a1 n1 c1,.slice k1 m1 e1,.int .i64 (bytI (eightI y.2.1)).cls,.int .i64 (bytI (eightI y.2.1)).tag,.bool (bytI (eightI y.2.1)).cons,.slice a2 n2 c2,.slice k2 m2 e2,.int .i64 (numI y.2.2).cls,.int .i64 (numI y.2.2).tag,.bool (numI y.2.2).cons,.slice a3 n3 c3,.slice k3 m3 e3] 75)) (by kernel_rfl) ?_
   exact hKQ.out _ _ (hI.pu 10 13 hz hUN HBB stb ((Below.refl _ _).alloc (Nat.le_refl _) _) ⟨W.heap.size,rfl,kidZ_n3 hI.bel.size o1 o2 o3,HGB⟩)
  ·obtain ⟨gr,f0,o0,_⟩:=hI.ge 10 hED
   replace f0:aT b 13=_:=f0
   refine opw_c1 80 13 Tryz.func80 f0 ?_
   refine (l9Struct_R o0 rfl).mono ?_
   rintro r W2 ⟨⟨a0,n0,c0,k0,m0,e0,rfl,hzI⟩,hb⟩
   exact ⟨_,rfl,hKQ.out _ _ (hI.pu 11 14 hz hUN HBB stb hb ⟨a0,n0,c0,k0,m0,e0,rfl,hzI,HGB⟩)⟩
  ·have hgb:=(hI.vot1 14 12 (od rfl) (od rfl) hUN rfl)
   have fb:=((hI.fr.same 2 (by decide)).trans g2)
   have f:=hI.ge 11 hED
   obtain ⟨a0,n0,c0,k0,m0,e0,f,o_0,o_1⟩:=f
   refine wp_store_row 75 _ _ rfl ((w.heap.size+1)) _ fb f 75 _ hgb (by kernel_rfl) rfl (by simp [Value.oneCell']) ?_
   have ht:=setRow_touch W ((w.heap.size+1)) #[.int .i64 (kyI y).cls,.int .i64 (kyI y).tag,.bool (kyI y).cons,.slice a0 n0 c0,.slice k0 m0 e0]
   exact hKQ.out _ _ (hI.store 12 (fun j hj=>by cases hj) (hI.bel.trans (ht.below (by first | exact HGE2 | omega) (Nat.le_trans HBB hI.bel.size))) (l9pubr_st12 y L w1.heap.size w.heap.size (w.heap.size) hgb ht) ⟨a0,n0,c0,k0,m0,e0,(setRow_heap W ((w.heap.size+1)) _ _ _ _ hgb),o_0.touched ht (by omega),o_1⟩)
 ·intro b W hf hb F
  clear stb
  obtain ⟨a0,n0,c0,k0,m0,e0,hbx,hz,_⟩:=F 12 (od rfl) rfl
  rw [hf.eq]
  simp only [puts,Act.put,List.setIfInBounds_toArray,List.set_cons_zero,List.set_cons_succ]
  clear hf F
  generalize aT b=AT
  clear b
  go_wp2
  try simp only [Exit.inBlock,Exit.then]
  exact bodyPost_ret (results_it rfl _ (w.heap.size+1) rfl _ _ _ _ _ _ hbx) rfl ⟨⟨a0,n0,c0,k0,m0,e0,rfl,hz.mono hbb.size⟩,hbb.trans hb⟩
theorem NumS_next (xs:List Int)(k:Nat)(h:k<xs.length):(xs.take (k+1)).map numI=(xs.take k).map numI++[numI (xs.getD k 0)]:=by
 rw [List.take_add_one,List.map_append]
 simp [h]
theorem l9NumList_R (a:Option Addr)(n c:Nat)(xs:List Int)(L:Nat)(w:World)(hLw:L≤w.heap.size)(h:Row64 w a n xs)(hn:n≤1000) :
  Calls Tryz.prog 88 #[.slice a n c] w fun e w'=>ItR L w.heap.size 2 (lstI (xs.map numI)) e w'∧Below w.heap.size w w':=by
 obtain ⟨i0,hi,hz0,hz1,hz2⟩:=info_parts Tryz.infoIt
 have hbx:=box5_below w
 have hsz:=box5_size w
 have HB5:Hid (_=_):=box5_new w
 obtain ⟨w1,hw1⟩:∃ w1,w1=box5 w:=⟨_,rfl⟩
 rw [← hw1] at hbx hsz HB5
 have HW:Hid (w1=w.alloc (.cells #[.int .i64 0,.int .i64 0,.bool false,.slice none 0 0,.slice none 0 0] 75)):=hw1
 have H0:Hid (Row64 w1 a n xs):=h.kept hbx
 have HLX:Hid (xs.length=n):=h.len
 have hbE:Below w1.heap.size w1 (w1.alloc (.cells #[] 75)):=(Below.refl _ _).alloc (Nat.le_refl _) _
 have HO0:Hid (OwnItZ 1 L w1.heap.size (w1.alloc (.cells #[] 75)) (some ⟨w1.heap.size,0,none⟩) 0 0 ((xs.take 0).map numI)):=ownItZ_empty 1 L w1
 have hszl:w.heap.size<w1.heap.size:=by omega
 clear h hw1 hsz
 go_enter Tryz.func88,Tryz.ntmps88
 go_upto_region 1 with fail
 rw [← HW.out]
 clear HW
 go_wp2
 go_loopw [3,4] (fun o i wr=>∃ (k:Nat) (ao:Option Addr) (cc:Nat),k≤n∧i=.int .i64 k∧o=.slice ao k cc∧Hid (OwnItZ 1 L w1.heap.size wr ao k cc ((xs.take k).map numI))∧Below w1.heap.size w1 wr) (fun _ i _=>n - (intOf i).toNat)
 case atStart=>exact ⟨0,_,0,Nat.zero_le _,rfl,rfl,HO0,hbE⟩
 case round =>
  obtain ⟨k,ao,cc,hk,rfl,rfl,HO,hbr⟩:=hrel
  have hws:=hbr.size
  by_cases hlt:k<n
  ·obtain ⟨b,off,rfl,hlb,e0⟩:=H0.out.get k hlt
   obtain ⟨y,hy⟩:∃ y,y=xs.getD k 0:=⟨_,rfl⟩
   rw [← hy] at e0
   obtain ⟨z,hz⟩:∃ z,z=numI y:=⟨_,rfl⟩
   have HXK:Hid ((xs.take (k+1)).map numI=(xs.take k).map numI++[z]):=by show _=_; rw [hz,hy]; exact NumS_next xs k (by rw [HLX.out]; exact hlt)
   have c0:=(hbr.cell (p:=⟨b,off+k,none⟩) hlb).trans e0
   have hkni:(k:Int)<(n:Int):=by omega
   have hbw:b<wr.heap.size:=by omega
   have HCON:Hid (Calls Tryz.prog 81 #[.int .i64 y] wr fun e w'=>ItR L wr.heap.size 1 z e w'∧Below wr.heap.size wr w'):=by rw [hz]; exact l9Num_R y L wr
   clear hy hz e0
   go_wp2_with fail
   refine HCON.out.mono ?_
   rintro e w2 ⟨⟨ab,nb,cb,ak,nk,ck,rfl,hit⟩,hb2⟩
   have B2:Below w1.heap.size w1 w2:=hbr.trans (hb2.mono hws)
   have hal:Below w2.heap.size w2 (w2.alloc (.cells #[.int .i64 z.cls,.int .i64 z.tag,.bool z.cons,.slice ab nb cb,.slice ak nk ck] 75)):=(Below.refl _ _).alloc (Nat.le_refl _) _
   have B6:Below w1.heap.size w1 (w2.alloc (.cells #[.int .i64 z.cls,.int .i64 z.tag,.bool z.cons,.slice ab nb cb,.slice ak nk ck] 75)):=B2.trans (hal.mono B2.size)
   have hs6:(w2.alloc (.cells #[.int .i64 z.cls,.int .i64 z.tag,.bool z.cons,.slice ab nb cb,.slice ak nk ck] 75)).heap.size=w2.heap.size+1:=by simp
   have hs2:=hb2.size
   have HQ3:Hid (OwnItZ 1 L w1.heap.size (w2.alloc (.cells #[.int .i64 z.cls,.int .i64 z.tag,.bool z.cons,.slice ab nb cb,.slice ak nk ck] 75)) ao k cc ((xs.take k).map numI)):=(HO.out.kept hb2).kept hal
   obtain ⟨vs,hrow⟩:=HQ3.out.row
   have HROW:Hid (_):=hrow
   have hown:∀ b,(Value.slice ao k cc).ownBlock=some b→w1.heap.size≤b∧b<wr.heap.size:=fun b hb=>by obtain ⟨vs0,hv0⟩:=HO.out.row; exact ⟨HO.out.2 b hb,(hv0.lt b hb).2⟩
   have HAPP:Hid (∀ g7 c7 w7,w7.ownsRow 0 75 5 (.slice (some ⟨g7,0,none⟩) (k+1) c7) (k+1) (vs++itc z ab nb cb ak nk ck)→(w2.alloc (.cells #[.int .i64 z.cls,.int .i64 z.tag,.bool z.cons,.slice ab nb cb,.slice ak nk ck] 75)).grownBy w7 (Value.slice ao k cc).ownBlock→((Value.slice ao k cc).ownBlock=some g7∨g7=w2.heap.size+1)→OwnItZ 1 L w1.heap.size w7 (some ⟨g7,0,none⟩) (k+1) c7 ((xs.take (k+1)).map numI)∧Below w1.heap.size w1 w7):=by
    intro g7 c7 w7 hv7 hg7 hl7
    have hit2:=hit.kept hal
    rw [HXK.out]
    refine ⟨HQ3.out.appended hit2.it (fun b hb=>⟨by have:=hb.1; omega,hb.2,fun e=>by have:=hown b e; have:=hb.1; omega⟩) (by omega) HROW.out hv7 hg7 (by rw [hs6]; exact hl7) B6.size,B6.grown hg7 (by have:=B6.size; omega) (fun kx hx=>HQ3.out.2 kx hx)⟩
   clear c0 hrow HO hb2 B2 hal hit HCON
   go_wp2_with (at_builtin; refine wpList_append_lies _ rfl (.tmp 12) (.tmp 18) 73 rfl 0 75 i0 _ 5 72 Tryz.underlying73 hi hz0 hz1 hz2 rfl (by decide) _ k vs rfl HROW.out ⟨w2.heap.size,0,none⟩ 1 1 [.int .i64 z.cls,.int .i64 z.tag,.bool z.cons,.slice ab nb cb,.slice ak nk ck] rfl rfl (World.news_of_block (heap_alloc_new w2 (.cells #[.int .i64 z.cls,.int .i64 z.tag,.bool z.cons,.slice ab nb cb,.slice ak nk ck] 75))) (by intro u hu; simp only [List.mem_cons,List.not_mem_nil,or_false] at hu; rcases hu with rfl | rfl | rfl | rfl | rfl <;> rfl) (by decide) (by unfold maxLen; omega) (by omega) (Nat.zero_le _) (w2.heap.size+1) (by simp) ?_; intro g7 c7 w7 hv7 hg7 hl7 hlt7; have HN7:=HAPP.out g7 c7 w7 hv7 hg7 hl7; have HO7:Hid (_):=HN7.1; have B7:=HN7.2; clear hv7 hg7 hl7 hlt7 HN7 HAPP HQ3 HROW)
   go_roundw
   case rel=>exact ⟨k+1,_,c7,by omega,by go_num,rfl,HO7,B7⟩
   case measure=>simp [intOf]; omega
  ·obtain rfl:k=n:=by omega
   have HX:Hid (xs.take k=xs):=by show _=_; rw [List.take_of_length_le (by rw [HLX.out]; exact Nat.le_refl _)]
   have hL9:ListZ L w1.heap.size 2 wr ao k (xs.map numI):=⟨by
    have:=HO.out.kids
    rw [HX.out] at this
    exact this⟩
   have HLL:Hid (Calls Tryz.prog 89 #[.slice ao k cc] wr fun e w'=>ItR L w1.heap.size 2 (lstI (xs.map numI)) e w'∧Below wr.heap.size wr w'):=l9List_R hL9
   clear hL9
   go_wp2_with fail
   refine HLL.out.mono ?_
   rintro e w2 ⟨⟨ab,nb,cb,ak,nk,ck,rfl,hit⟩,hb2⟩
   have HIT:Hid (_):=hit
   have B2:Below w1.heap.size w1 w2:=hbr.trans (hb2.mono hws)
   have h5:=below_kept HB5.out B2
   obtain ⟨_,q0,q1,q2,q3,q4,q5,q6,q7,q8,q9⟩:=Box5.of h5
   have H5:Hid (_=_):=h5
   have B3:Below w.heap.size w w2:=keepT hbx B2
   clear h5 hb2 hit HLL
   go_wp2_with fail
   try simp only [Exit.inBlock,Exit.then]
   have T:=put5_touch w2 w.heap.size (.int .i64 (lstI (xs.map numI)).cls) (.int .i64 (lstI (xs.map numI)).tag) (.bool (lstI (xs.map numI)).cons) (.slice ab nb cb) (.slice ak nk ck)
   exact bodyPost_ret (results_it rfl _ w.heap.size rfl _ _ _ _ _ _ (put5_heap H5.out _ _ _ _ _)) rfl ⟨⟨_,_,_,_,_,_,rfl,HIT.out.put hLw (by omega) _ _ _ _ _⟩,B3.trans (T.below (Nat.le_refl _) B3.size)⟩
open Go.RowKit
theorem eqCert_k (s t:CES)(x:CE)(w:World)(h:CER w s x)(h2:CER w t x)(hz:CEZ x) :
  Calls Tryz.prog 13 #[CEv s x,CEv t x] w fun e w'=>e=.returned (.bool true)∧Below w.heap.size w w':=by
 have hzn:=h.zn.1 hz
 obtain ⟨a1,n1,c1,a2,n2,c2,a3,n3,c3,a4,n4,c4,a5,n5,c5,a6,n6,c6,a7,n7,c7,a8,n8,c8,a9,n9,c9⟩:=s
 obtain ⟨b1,m1,d1,b2,m2,d2,b3,m3,d3,b4,m4,d4,b5,m5,d5,b6,m6,d6,b7,m7,d7,b8,m8,d8,b9,m9,d9⟩:=t
 obtain rfl:m1=n1:=(h2.r1.len).symm.trans h.r1.len
 obtain rfl:m2=n2:=(h2.r2.len).symm.trans h.r2.len
 obtain rfl:m3=n3:=(h2.r3.len).symm.trans h.r3.len
 obtain rfl:m4=n4:=(h2.r4.len).symm.trans h.r4.len
 obtain rfl:m5=n5:=(h2.r5.len).symm.trans h.r5.len
 obtain rfl:m6=n6:=(h2.r6.len).symm.trans h.r6.len
 obtain rfl:m7=n7:=(h2.r7.len).symm.trans h.r7.len
 obtain rfl:m8=n8:=(h2.r8.len).symm.trans h.r8.len
 obtain rfl:m9=n9:=(h2.r9.len).symm.trans h.r9.len
 have H1:Hid (CER w ⟨a1,m1,c1,a2,m2,c2,a3,m3,c3,a4,m4,c4,a5,m5,c5,a6,m6,c6,a7,m7,c7,a8,m8,c8,a9,m9,c9⟩ x):=h
 have H2:Hid (CER w ⟨b1,m1,d1,b2,m2,d2,b3,m3,d3,b4,m4,d4,b5,m5,d5,b6,m6,d6,b7,m7,d7,b8,m8,d8,b9,m9,d9⟩ x):=h2
 have HZ:Hid ((m1≤1048576∧(∀ k,k<m1→(x.iss.getD k default).val.size≤1048576))∧(m2≤1048576∧(∀ k,k<m2→(x.sub.getD k default).val.size≤1048576))∧(m3≤1048576∧(∀ k,k<m3→GeOk (x.nms.getD k default)))∧(m4≤1048576∧(∀ k,k<m4→GeOk (x.per.getD k default)))∧(m5≤1048576∧(∀ k,k<m5→GeOk (x.den.getD k default)))∧(m6≤1048576)∧(m7≤1048576)∧(m8≤1048576∧(∀ k,k<m8→XPZ (x.ext.getD k default)))∧(m9≤1048576)):=hzn
 clear h h2 hz hzn
 show Calls Tryz.prog 13 #[.agg #[.int .i64 x.ser,.slice a1 m1 c1,.slice a2 m2 c2,.int .i64 x.frm,.int .i64 x.til,.int .i64 x.key.1,.int .u64 x.key.2.1,.int .i64 x.key.2.2,.bool x.ca,.int .i64 x.room,.int .i64 x.uses,.slice a3 m3 c3,.slice a4 m4 c4,.slice a5 m5 c5,.slice a6 m6 c6,.slice a7 m7 c7,.int .i64 x.need,.int .i64 x.nomap,.int .i64 x.noany,.slice a8 m8 c8,.slice a9 m9 c9],.agg #[.int .i64 x.ser,.slice b1 m1 d1,.slice b2 m2 d2,.int .i64 x.frm,.int .i64 x.til,.int .i64 x.key.1,.int .u64 x.key.2.1,.int .i64 x.key.2.2,.bool x.ca,.int .i64 x.room,.int .i64 x.uses,.slice b3 m3 d3,.slice b4 m4 d4,.slice b5 m5 d5,.slice b6 m6 d6,.slice b7 m7 d7,.int .i64 x.need,.int .i64 x.nomap,.int .i64 x.noany,.slice b8 m8 d8,.slice b9 m9 d9]] w _
 obtain ⟨w0,hW0⟩:∃ W0,W0=((w.alloc (.cells #[.int .i64 x.ser,.slice a1 m1 c1,.slice a2 m2 c2,.int .i64 x.frm,.int .i64 x.til,.int .i64 x.key.1,.int .u64 x.key.2.1,.int .i64 x.key.2.2,.bool x.ca,.int .i64 x.room,.int .i64 x.uses,.slice a3 m3 c3,.slice a4 m4 c4,.slice a5 m5 c5,.slice a6 m6 c6,.slice a7 m7 c7,.int .i64 x.need,.int .i64 x.nomap,.int .i64 x.noany,.slice a8 m8 c8,.slice a9 m9 c9] 46)).alloc (.cells #[.int .i64 x.ser,.slice b1 m1 d1,.slice b2 m2 d2,.int .i64 x.frm,.int .i64 x.til,.int .i64 x.key.1,.int .u64 x.key.2.1,.int .i64 x.key.2.2,.bool x.ca,.int .i64 x.room,.int .i64 x.uses,.slice b3 m3 d3,.slice b4 m4 d4,.slice b5 m5 d5,.slice b6 m6 d6,.slice b7 m7 d7,.int .i64 x.need,.int .i64 x.nomap,.int .i64 x.noany,.slice b8 m8 d8,.slice b9 m9 d9] 46)):=⟨_,rfl⟩
 have HB0:Hid (Below w.heap.size w w0):=by show Below w.heap.size w w0; rw [hW0]; exact ((Below.refl _ _).alloc (Nat.le_refl _) _).alloc (by simp) _
 have y:=two_blocks w (.cells #[.int .i64 x.ser,.slice a1 m1 c1,.slice a2 m2 c2,.int .i64 x.frm,.int .i64 x.til,.int .i64 x.key.1,.int .u64 x.key.2.1,.int .i64 x.key.2.2,.bool x.ca,.int .i64 x.room,.int .i64 x.uses,.slice a3 m3 c3,.slice a4 m4 c4,.slice a5 m5 c5,.slice a6 m6 c6,.slice a7 m7 c7,.int .i64 x.need,.int .i64 x.nomap,.int .i64 x.noany,.slice a8 m8 c8,.slice a9 m9 c9] 46) (.cells #[.int .i64 x.ser,.slice b1 m1 d1,.slice b2 m2 d2,.int .i64 x.frm,.int .i64 x.til,.int .i64 x.key.1,.int .u64 x.key.2.1,.int .i64 x.key.2.2,.bool x.ca,.int .i64 x.room,.int .i64 x.uses,.slice b3 m3 d3,.slice b4 m4 d4,.slice b5 m5 d5,.slice b6 m6 d6,.slice b7 m7 d7,.int .i64 x.need,.int .i64 x.nomap,.int .i64 x.noany,.slice b8 m8 d8,.slice b9 m9 d9] 46)
 rw [← hW0] at y
 have Y0:Hid (w0.heap[w.heap.size]? = some (.cells #[.int .i64 x.ser,.slice a1 m1 c1,.slice a2 m2 c2,.int .i64 x.frm,.int .i64 x.til,.int .i64 x.key.1,.int .u64 x.key.2.1,.int .i64 x.key.2.2,.bool x.ca,.int .i64 x.room,.int .i64 x.uses,.slice a3 m3 c3,.slice a4 m4 c4,.slice a5 m5 c5,.slice a6 m6 c6,.slice a7 m7 c7,.int .i64 x.need,.int .i64 x.nomap,.int .i64 x.noany,.slice a8 m8 c8,.slice a9 m9 c9] 46)):=y.1
 have Y1:Hid (w0.heap[w.heap.size+1]? = some (.cells #[.int .i64 x.ser,.slice b1 m1 d1,.slice b2 m2 d2,.int .i64 x.frm,.int .i64 x.til,.int .i64 x.key.1,.int .u64 x.key.2.1,.int .i64 x.key.2.2,.bool x.ca,.int .i64 x.room,.int .i64 x.uses,.slice b3 m3 d3,.slice b4 m4 d4,.slice b5 m5 d5,.slice b6 m6 d6,.slice b7 m7 d7,.int .i64 x.need,.int .i64 x.nomap,.int .i64 x.noany,.slice b8 m8 d8,.slice b9 m9 d9] 46)):=y.2
 have l0:w.heap.size+1<w0.heap.size:=(Array.getElem?_eq_some_iff.1 y.2).1
 clear y
 have t_ser:(x.ser != x.ser)=false:=by simp
 have t_frm:(x.frm != x.frm)=false:=by simp
 have t_til:(x.til != x.til)=false:=by simp
 have t_ca:(x.ca != x.ca)=false:=by simp
 have t_room:(x.room != x.room)=false:=by simp
 have t_uses:(x.uses != x.uses)=false:=by simp
 have t_need:(x.need != x.need)=false:=by simp
 have t_nomap:(x.nomap != x.nomap)=false:=by simp
 have t_noany:(x.noany != x.noany)=false:=by simp
 go_enter Tryz.func13,Tryz.ntmps13
 go_upto_region 1 with fail
 rw [← hW0]
 clear hW0
 have p0:w0.cell? ⟨w.heap.size,0,none⟩=some (.int .i64 x.ser):=qk Y0.out rfl
 have q0:w0.cell? ⟨w.heap.size+1,0,none⟩=some (.int .i64 x.ser):=qk Y1.out rfl
 have p1:w0.cell? ⟨w.heap.size,1,none⟩=some (.slice a1 m1 c1):=qk Y0.out rfl
 have q1:w0.cell? ⟨w.heap.size+1,1,none⟩=some (.slice b1 m1 d1):=qk Y1.out rfl
 go_wp2_with fail
 refine (eqName_same a1 b1 m1 c1 d1 x.iss _ ((H1.out.kept HB0.out).r1) ((H2.out.kept HB0.out).r1)).mono ?_
 rintro e w1 ⟨rfl,hb1⟩
 replace Y0:Hid (w1.heap[w.heap.size]? = some (.cells #[.int .i64 x.ser,.slice a1 m1 c1,.slice a2 m2 c2,.int .i64 x.frm,.int .i64 x.til,.int .i64 x.key.1,.int .u64 x.key.2.1,.int .i64 x.key.2.2,.bool x.ca,.int .i64 x.room,.int .i64 x.uses,.slice a3 m3 c3,.slice a4 m4 c4,.slice a5 m5 c5,.slice a6 m6 c6,.slice a7 m7 c7,.int .i64 x.need,.int .i64 x.nomap,.int .i64 x.noany,.slice a8 m8 c8,.slice a9 m9 c9] 46)):=(hb1.block _ (by omega)).trans Y0.out
 replace Y1:Hid (w1.heap[w.heap.size+1]? = some (.cells #[.int .i64 x.ser,.slice b1 m1 d1,.slice b2 m2 d2,.int .i64 x.frm,.int .i64 x.til,.int .i64 x.key.1,.int .u64 x.key.2.1,.int .i64 x.key.2.2,.bool x.ca,.int .i64 x.room,.int .i64 x.uses,.slice b3 m3 d3,.slice b4 m4 d4,.slice b5 m5 d5,.slice b6 m6 d6,.slice b7 m7 d7,.int .i64 x.need,.int .i64 x.nomap,.int .i64 x.noany,.slice b8 m8 d8,.slice b9 m9 d9] 46)):=(hb1.block _ l0).trans Y1.out
 have HB1:Hid (Below w.heap.size w w1):=HB0.out.trans (hb1.mono HB0.out.size)
 have l1:w.heap.size+1<w1.heap.size:=(Array.getElem?_eq_some_iff.1 Y1.out).1
 clear p0 q0 p1 q1 hb1 HB0 l0
 have p2:w1.cell? ⟨w.heap.size,2,none⟩=some (.slice a2 m2 c2):=qk Y0.out rfl
 have q2:w1.cell? ⟨w.heap.size+1,2,none⟩=some (.slice b2 m2 d2):=qk Y1.out rfl
 go_wp2_with fail
 refine (eqName_same a2 b2 m2 c2 d2 x.sub _ ((H1.out.kept HB1.out).r2) ((H2.out.kept HB1.out).r2)).mono ?_
 rintro e w2 ⟨rfl,hb2⟩
 replace Y0:Hid (w2.heap[w.heap.size]? = some (.cells #[.int .i64 x.ser,.slice a1 m1 c1,.slice a2 m2 c2,.int .i64 x.frm,.int .i64 x.til,.int .i64 x.key.1,.int .u64 x.key.2.1,.int .i64 x.key.2.2,.bool x.ca,.int .i64 x.room,.int .i64 x.uses,.slice a3 m3 c3,.slice a4 m4 c4,.slice a5 m5 c5,.slice a6 m6 c6,.slice a7 m7 c7,.int .i64 x.need,.int .i64 x.nomap,.int .i64 x.noany,.slice a8 m8 c8,.slice a9 m9 c9] 46)):=(hb2.block _ (by omega)).trans Y0.out
 replace Y1:Hid (w2.heap[w.heap.size+1]? = some (.cells #[.int .i64 x.ser,.slice b1 m1 d1,.slice b2 m2 d2,.int .i64 x.frm,.int .i64 x.til,.int .i64 x.key.1,.int .u64 x.key.2.1,.int .i64 x.key.2.2,.bool x.ca,.int .i64 x.room,.int .i64 x.uses,.slice b3 m3 d3,.slice b4 m4 d4,.slice b5 m5 d5,.slice b6 m6 d6,.slice b7 m7 d7,.int .i64 x.need,.int .i64 x.nomap,.int .i64 x.noany,.slice b8 m8 d8,.slice b9 m9 d9] 46)):=(hb2.block _ l1).trans Y1.out
 have HB2:Hid (Below w.heap.size w w2):=HB1.out.trans (hb2.mono HB1.out.size)
 have l2:w.heap.size+1<w2.heap.size:=(Array.getElem?_eq_some_iff.1 Y1.out).1
 clear p2 q2 hb2 HB1 l1
 have p3:w2.cell? ⟨w.heap.size,3,none⟩=some (.int .i64 x.frm):=qk Y0.out rfl
 have q3:w2.cell? ⟨w.heap.size+1,3,none⟩=some (.int .i64 x.frm):=qk Y1.out rfl
 have p4:w2.cell? ⟨w.heap.size,4,none⟩=some (.int .i64 x.til):=qk Y0.out rfl
 have q4:w2.cell? ⟨w.heap.size+1,4,none⟩=some (.int .i64 x.til):=qk Y1.out rfl
 have p5:w2.cell? ⟨w.heap.size,5,none⟩=some (.int .i64 x.key.1):=qk Y0.out rfl
 have q5:w2.cell? ⟨w.heap.size+1,5,none⟩=some (.int .i64 x.key.1):=qk Y1.out rfl
 have p6:w2.cell? ⟨w.heap.size,6,none⟩=some (.int .u64 x.key.2.1):=qk Y0.out rfl
 have q6:w2.cell? ⟨w.heap.size+1,6,none⟩=some (.int .u64 x.key.2.1):=qk Y1.out rfl
 have p7:w2.cell? ⟨w.heap.size,7,none⟩=some (.int .i64 x.key.2.2):=qk Y0.out rfl
 have q7:w2.cell? ⟨w.heap.size+1,7,none⟩=some (.int .i64 x.key.2.2):=qk Y1.out rfl
 go_wp2_with fail
 refine (eqPub_one x.key.1 x.key.2.1 x.key.2.2 _).mono ?_
 rintro e w3 ⟨rfl,hb3⟩
 replace Y0:Hid (w3.heap[w.heap.size]? = some (.cells #[.int .i64 x.ser,.slice a1 m1 c1,.slice a2 m2 c2,.int .i64 x.frm,.int .i64 x.til,.int .i64 x.key.1,.int .u64 x.key.2.1,.int .i64 x.key.2.2,.bool x.ca,.int .i64 x.room,.int .i64 x.uses,.slice a3 m3 c3,.slice a4 m4 c4,.slice a5 m5 c5,.slice a6 m6 c6,.slice a7 m7 c7,.int .i64 x.need,.int .i64 x.nomap,.int .i64 x.noany,.slice a8 m8 c8,.slice a9 m9 c9] 46)):=(hb3.block _ (by omega)).trans Y0.out
 replace Y1:Hid (w3.heap[w.heap.size+1]? = some (.cells #[.int .i64 x.ser,.slice b1 m1 d1,.slice b2 m2 d2,.int .i64 x.frm,.int .i64 x.til,.int .i64 x.key.1,.int .u64 x.key.2.1,.int .i64 x.key.2.2,.bool x.ca,.int .i64 x.room,.int .i64 x.uses,.slice b3 m3 d3,.slice b4 m4 d4,.slice b5 m5 d5,.slice b6 m6 d6,.slice b7 m7 d7,.int .i64 x.need,.int .i64 x.nomap,.int .i64 x.noany,.slice b8 m8 d8,.slice b9 m9 d9] 46)):=(hb3.block _ l2).trans Y1.out
 have HB3:Hid (Below w.heap.size w w3):=HB2.out.trans (hb3.mono HB2.out.size)
 have l3:w.heap.size+1<w3.heap.size:=(Array.getElem?_eq_some_iff.1 Y1.out).1
 clear p3 q3 p4 q4 p5 q5 p6 q6 p7 q7 hb3 HB2 l2
 have p8:w3.cell? ⟨w.heap.size,8,none⟩=some (.bool x.ca):=qk Y0.out rfl
 have q8:w3.cell? ⟨w.heap.size+1,8,none⟩=some (.bool x.ca):=qk Y1.out rfl
 have p9:w3.cell? ⟨w.heap.size,9,none⟩=some (.int .i64 x.room):=qk Y0.out rfl
 have q9:w3.cell? ⟨w.heap.size+1,9,none⟩=some (.int .i64 x.room):=qk Y1.out rfl
 have p10:w3.cell? ⟨w.heap.size,10,none⟩=some (.int .i64 x.uses):=qk Y0.out rfl
 have q10:w3.cell? ⟨w.heap.size+1,10,none⟩=some (.int .i64 x.uses):=qk Y1.out rfl
 have p11:w3.cell? ⟨w.heap.size,11,none⟩=some (.slice a3 m3 c3):=qk Y0.out rfl
 have q11:w3.cell? ⟨w.heap.size+1,11,none⟩=some (.slice b3 m3 d3):=qk Y1.out rfl
 go_wp2_with fail
 refine (eqGenNameS_same a3 b3 m3 c3 d3 x.nms _ ((H1.out.kept HB3.out).r3) ((H2.out.kept HB3.out).r3)).mono ?_
 rintro e w4 ⟨rfl,hb4⟩
 replace Y0:Hid (w4.heap[w.heap.size]? = some (.cells #[.int .i64 x.ser,.slice a1 m1 c1,.slice a2 m2 c2,.int .i64 x.frm,.int .i64 x.til,.int .i64 x.key.1,.int .u64 x.key.2.1,.int .i64 x.key.2.2,.bool x.ca,.int .i64 x.room,.int .i64 x.uses,.slice a3 m3 c3,.slice a4 m4 c4,.slice a5 m5 c5,.slice a6 m6 c6,.slice a7 m7 c7,.int .i64 x.need,.int .i64 x.nomap,.int .i64 x.noany,.slice a8 m8 c8,.slice a9 m9 c9] 46)):=(hb4.block _ (by omega)).trans Y0.out
 replace Y1:Hid (w4.heap[w.heap.size+1]? = some (.cells #[.int .i64 x.ser,.slice b1 m1 d1,.slice b2 m2 d2,.int .i64 x.frm,.int .i64 x.til,.int .i64 x.key.1,.int .u64 x.key.2.1,.int .i64 x.key.2.2,.bool x.ca,.int .i64 x.room,.int .i64 x.uses,.slice b3 m3 d3,.slice b4 m4 d4,.slice b5 m5 d5,.slice b6 m6 d6,.slice b7 m7 d7,.int .i64 x.need,.int .i64 x.nomap,.int .i64 x.noany,.slice b8 m8 d8,.slice b9 m9 d9] 46)):=(hb4.block _ l3).trans Y1.out
 have HB4:Hid (Below w.heap.size w w4):=HB3.out.trans (hb4.mono HB3.out.size)
 have l4:w.heap.size+1<w4.heap.size:=(Array.getElem?_eq_some_iff.1 Y1.out).1
 clear p8 q8 p9 q9 p10 q10 p11 q11 hb4 HB3 l3
 have p12:w4.cell? ⟨w.heap.size,12,none⟩=some (.slice a4 m4 c4):=qk Y0.out rfl
 have q12:w4.cell? ⟨w.heap.size+1,12,none⟩=some (.slice b4 m4 d4):=qk Y1.out rfl
 go_wp2_with fail
 refine (eqGenNameS_same a4 b4 m4 c4 d4 x.per _ ((H1.out.kept HB4.out).r4) ((H2.out.kept HB4.out).r4)).mono ?_
 rintro e w5 ⟨rfl,hb5⟩
 replace Y0:Hid (w5.heap[w.heap.size]? = some (.cells #[.int .i64 x.ser,.slice a1 m1 c1,.slice a2 m2 c2,.int .i64 x.frm,.int .i64 x.til,.int .i64 x.key.1,.int .u64 x.key.2.1,.int .i64 x.key.2.2,.bool x.ca,.int .i64 x.room,.int .i64 x.uses,.slice a3 m3 c3,.slice a4 m4 c4,.slice a5 m5 c5,.slice a6 m6 c6,.slice a7 m7 c7,.int .i64 x.need,.int .i64 x.nomap,.int .i64 x.noany,.slice a8 m8 c8,.slice a9 m9 c9] 46)):=(hb5.block _ (by omega)).trans Y0.out
 replace Y1:Hid (w5.heap[w.heap.size+1]? = some (.cells #[.int .i64 x.ser,.slice b1 m1 d1,.slice b2 m2 d2,.int .i64 x.frm,.int .i64 x.til,.int .i64 x.key.1,.int .u64 x.key.2.1,.int .i64 x.key.2.2,.bool x.ca,.int .i64 x.room,.int .i64 x.uses,.slice b3 m3 d3,.slice b4 m4 d4,.slice b5 m5 d5,.slice b6 m6 d6,.slice b7 m7 d7,.int .i64 x.need,.int .i64 x.nomap,.int .i64 x.noany,.slice b8 m8 d8,.slice b9 m9 d9] 46)):=(hb5.block _ l4).trans Y1.out
 have HB5:Hid (Below w.heap.size w w5):=HB4.out.trans (hb5.mono HB4.out.size)
 have l5:w.heap.size+1<w5.heap.size:=(Array.getElem?_eq_some_iff.1 Y1.out).1
 clear p12 q12 hb5 HB4 l4
 have p13:w5.cell? ⟨w.heap.size,13,none⟩=some (.slice a5 m5 c5):=qk Y0.out rfl
 have q13:w5.cell? ⟨w.heap.size+1,13,none⟩=some (.slice b5 m5 d5):=qk Y1.out rfl
 go_wp2_with fail
 refine (eqGenNameS_same a5 b5 m5 c5 d5 x.den _ ((H1.out.kept HB5.out).r5) ((H2.out.kept HB5.out).r5)).mono ?_
 rintro e w6 ⟨rfl,hb6⟩
 replace Y0:Hid (w6.heap[w.heap.size]? = some (.cells #[.int .i64 x.ser,.slice a1 m1 c1,.slice a2 m2 c2,.int .i64 x.frm,.int .i64 x.til,.int .i64 x.key.1,.int .u64 x.key.2.1,.int .i64 x.key.2.2,.bool x.ca,.int .i64 x.room,.int .i64 x.uses,.slice a3 m3 c3,.slice a4 m4 c4,.slice a5 m5 c5,.slice a6 m6 c6,.slice a7 m7 c7,.int .i64 x.need,.int .i64 x.nomap,.int .i64 x.noany,.slice a8 m8 c8,.slice a9 m9 c9] 46)):=(hb6.block _ (by omega)).trans Y0.out
 replace Y1:Hid (w6.heap[w.heap.size+1]? = some (.cells #[.int .i64 x.ser,.slice b1 m1 d1,.slice b2 m2 d2,.int .i64 x.frm,.int .i64 x.til,.int .i64 x.key.1,.int .u64 x.key.2.1,.int .i64 x.key.2.2,.bool x.ca,.int .i64 x.room,.int .i64 x.uses,.slice b3 m3 d3,.slice b4 m4 d4,.slice b5 m5 d5,.slice b6 m6 d6,.slice b7 m7 d7,.int .i64 x.need,.int .i64 x.nomap,.int .i64 x.noany,.slice b8 m8 d8,.slice b9 m9 d9] 46)):=(hb6.block _ l5).trans Y1.out
 have HB6:Hid (Below w.heap.size w w6):=HB5.out.trans (hb6.mono HB5.out.size)
 have l6:w.heap.size+1<w6.heap.size:=(Array.getElem?_eq_some_iff.1 Y1.out).1
 clear p13 q13 hb6 HB5 l5
 have p14:w6.cell? ⟨w.heap.size,14,none⟩=some (.slice a6 m6 c6):=qk Y0.out rfl
 have q14:w6.cell? ⟨w.heap.size+1,14,none⟩=some (.slice b6 m6 d6):=qk Y1.out rfl
 go_wp2_with fail
 refine (eqInt64S_same a6 b6 m6 c6 d6 x.pol _ ((H1.out.kept HB6.out).r6) ((H2.out.kept HB6.out).r6) H1.out.m6).mono ?_
 rintro e w7 ⟨rfl,hb7⟩
 replace Y0:Hid (w7.heap[w.heap.size]? = some (.cells #[.int .i64 x.ser,.slice a1 m1 c1,.slice a2 m2 c2,.int .i64 x.frm,.int .i64 x.til,.int .i64 x.key.1,.int .u64 x.key.2.1,.int .i64 x.key.2.2,.bool x.ca,.int .i64 x.room,.int .i64 x.uses,.slice a3 m3 c3,.slice a4 m4 c4,.slice a5 m5 c5,.slice a6 m6 c6,.slice a7 m7 c7,.int .i64 x.need,.int .i64 x.nomap,.int .i64 x.noany,.slice a8 m8 c8,.slice a9 m9 c9] 46)):=(hb7.block _ (by omega)).trans Y0.out
 replace Y1:Hid (w7.heap[w.heap.size+1]? = some (.cells #[.int .i64 x.ser,.slice b1 m1 d1,.slice b2 m2 d2,.int .i64 x.frm,.int .i64 x.til,.int .i64 x.key.1,.int .u64 x.key.2.1,.int .i64 x.key.2.2,.bool x.ca,.int .i64 x.room,.int .i64 x.uses,.slice b3 m3 d3,.slice b4 m4 d4,.slice b5 m5 d5,.slice b6 m6 d6,.slice b7 m7 d7,.int .i64 x.need,.int .i64 x.nomap,.int .i64 x.noany,.slice b8 m8 d8,.slice b9 m9 d9] 46)):=(hb7.block _ l6).trans Y1.out
 have HB7:Hid (Below w.heap.size w w7):=HB6.out.trans (hb7.mono HB6.out.size)
 have l7:w.heap.size+1<w7.heap.size:=(Array.getElem?_eq_some_iff.1 Y1.out).1
 clear p14 q14 hb7 HB6 l6
 have p15:w7.cell? ⟨w.heap.size,15,none⟩=some (.slice a7 m7 c7):=qk Y0.out rfl
 have q15:w7.cell? ⟨w.heap.size+1,15,none⟩=some (.slice b7 m7 d7):=qk Y1.out rfl
 go_wp2_with fail
 refine (eqPolMapS_same a7 b7 m7 c7 d7 x.maps _ ((H1.out.kept HB7.out).r7) ((H2.out.kept HB7.out).r7)).mono ?_
 rintro e w8 ⟨rfl,hb8⟩
 replace Y0:Hid (w8.heap[w.heap.size]? = some (.cells #[.int .i64 x.ser,.slice a1 m1 c1,.slice a2 m2 c2,.int .i64 x.frm,.int .i64 x.til,.int .i64 x.key.1,.int .u64 x.key.2.1,.int .i64 x.key.2.2,.bool x.ca,.int .i64 x.room,.int .i64 x.uses,.slice a3 m3 c3,.slice a4 m4 c4,.slice a5 m5 c5,.slice a6 m6 c6,.slice a7 m7 c7,.int .i64 x.need,.int .i64 x.nomap,.int .i64 x.noany,.slice a8 m8 c8,.slice a9 m9 c9] 46)):=(hb8.block _ (by omega)).trans Y0.out
 replace Y1:Hid (w8.heap[w.heap.size+1]? = some (.cells #[.int .i64 x.ser,.slice b1 m1 d1,.slice b2 m2 d2,.int .i64 x.frm,.int .i64 x.til,.int .i64 x.key.1,.int .u64 x.key.2.1,.int .i64 x.key.2.2,.bool x.ca,.int .i64 x.room,.int .i64 x.uses,.slice b3 m3 d3,.slice b4 m4 d4,.slice b5 m5 d5,.slice b6 m6 d6,.slice b7 m7 d7,.int .i64 x.need,.int .i64 x.nomap,.int .i64 x.noany,.slice b8 m8 d8,.slice b9 m9 d9] 46)):=(hb8.block _ l7).trans Y1.out
 have HB8:Hid (Below w.heap.size w w8):=HB7.out.trans (hb8.mono HB7.out.size)
 have l8:w.heap.size+1<w8.heap.size:=(Array.getElem?_eq_some_iff.1 Y1.out).1
 clear p15 q15 hb8 HB7 l7
 have p16:w8.cell? ⟨w.heap.size,16,none⟩=some (.int .i64 x.need):=qk Y0.out rfl
 have q16:w8.cell? ⟨w.heap.size+1,16,none⟩=some (.int .i64 x.need):=qk Y1.out rfl
 have p17:w8.cell? ⟨w.heap.size,17,none⟩=some (.int .i64 x.nomap):=qk Y0.out rfl
 have q17:w8.cell? ⟨w.heap.size+1,17,none⟩=some (.int .i64 x.nomap):=qk Y1.out rfl
 have p18:w8.cell? ⟨w.heap.size,18,none⟩=some (.int .i64 x.noany):=qk Y0.out rfl
 have q18:w8.cell? ⟨w.heap.size+1,18,none⟩=some (.int .i64 x.noany):=qk Y1.out rfl
 have p19:w8.cell? ⟨w.heap.size,19,none⟩=some (.slice a8 m8 c8):=qk Y0.out rfl
 have q19:w8.cell? ⟨w.heap.size+1,19,none⟩=some (.slice b8 m8 d8):=qk Y1.out rfl
 go_wp2_with fail
 refine (eqExtS_k a8 b8 m8 c8 d8 x.ext _ ((H1.out.kept HB8.out).r8) ((H2.out.kept HB8.out).r8) HZ.out.2.2.2.2.2.2.2.1.2).mono ?_
 rintro e w9 ⟨rfl,hb9⟩
 replace Y0:Hid (w9.heap[w.heap.size]? = some (.cells #[.int .i64 x.ser,.slice a1 m1 c1,.slice a2 m2 c2,.int .i64 x.frm,.int .i64 x.til,.int .i64 x.key.1,.int .u64 x.key.2.1,.int .i64 x.key.2.2,.bool x.ca,.int .i64 x.room,.int .i64 x.uses,.slice a3 m3 c3,.slice a4 m4 c4,.slice a5 m5 c5,.slice a6 m6 c6,.slice a7 m7 c7,.int .i64 x.need,.int .i64 x.nomap,.int .i64 x.noany,.slice a8 m8 c8,.slice a9 m9 c9] 46)):=(hb9.block _ (by omega)).trans Y0.out
 replace Y1:Hid (w9.heap[w.heap.size+1]? = some (.cells #[.int .i64 x.ser,.slice b1 m1 d1,.slice b2 m2 d2,.int .i64 x.frm,.int .i64 x.til,.int .i64 x.key.1,.int .u64 x.key.2.1,.int .i64 x.key.2.2,.bool x.ca,.int .i64 x.room,.int .i64 x.uses,.slice b3 m3 d3,.slice b4 m4 d4,.slice b5 m5 d5,.slice b6 m6 d6,.slice b7 m7 d7,.int .i64 x.need,.int .i64 x.nomap,.int .i64 x.noany,.slice b8 m8 d8,.slice b9 m9 d9] 46)):=(hb9.block _ l8).trans Y1.out
 have HB9:Hid (Below w.heap.size w w9):=HB8.out.trans (hb9.mono HB8.out.size)
 have l9:w.heap.size+1<w9.heap.size:=(Array.getElem?_eq_some_iff.1 Y1.out).1
 clear p16 q16 p17 q17 p18 q18 p19 q19 hb9 HB8 l8
 have p20:w9.cell? ⟨w.heap.size,20,none⟩=some (.slice a9 m9 c9):=qk Y0.out rfl
 have q20:w9.cell? ⟨w.heap.size+1,20,none⟩=some (.slice b9 m9 d9):=qk Y1.out rfl
 go_wp2_with fail
 refine (eqByteS_one a9 b9 m9 c9 d9 x.sig _ ((H1.out.kept HB9.out).r9) ((H2.out.kept HB9.out).r9) HZ.out.2.2.2.2.2.2.2.2).mono ?_
 rintro e w10 ⟨rfl,hb10⟩
 replace Y0:Hid (w10.heap[w.heap.size]? = some (.cells #[.int .i64 x.ser,.slice a1 m1 c1,.slice a2 m2 c2,.int .i64 x.frm,.int .i64 x.til,.int .i64 x.key.1,.int .u64 x.key.2.1,.int .i64 x.key.2.2,.bool x.ca,.int .i64 x.room,.int .i64 x.uses,.slice a3 m3 c3,.slice a4 m4 c4,.slice a5 m5 c5,.slice a6 m6 c6,.slice a7 m7 c7,.int .i64 x.need,.int .i64 x.nomap,.int .i64 x.noany,.slice a8 m8 c8,.slice a9 m9 c9] 46)):=(hb10.block _ (by omega)).trans Y0.out
 replace Y1:Hid (w10.heap[w.heap.size+1]? = some (.cells #[.int .i64 x.ser,.slice b1 m1 d1,.slice b2 m2 d2,.int .i64 x.frm,.int .i64 x.til,.int .i64 x.key.1,.int .u64 x.key.2.1,.int .i64 x.key.2.2,.bool x.ca,.int .i64 x.room,.int .i64 x.uses,.slice b3 m3 d3,.slice b4 m4 d4,.slice b5 m5 d5,.slice b6 m6 d6,.slice b7 m7 d7,.int .i64 x.need,.int .i64 x.nomap,.int .i64 x.noany,.slice b8 m8 d8,.slice b9 m9 d9] 46)):=(hb10.block _ l9).trans Y1.out
 have HB10:Hid (Below w.heap.size w w10):=HB9.out.trans (hb10.mono HB9.out.size)
 have l10:w.heap.size+1<w10.heap.size:=(Array.getElem?_eq_some_iff.1 Y1.out).1
 clear p20 q20 hb10 HB9 l9
 go_wp2
 go_ret
 exact ⟨rfl,HB10.out⟩
end Go.Proofs.YtmdfbnlgfhjnoaaGreatDoor
