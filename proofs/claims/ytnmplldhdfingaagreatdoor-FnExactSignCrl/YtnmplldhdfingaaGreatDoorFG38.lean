import Derived.Test.YtnmplldhdfingaaGreatDoorFG35
set_option maxRecDepth 10000
set_option maxHeartbeats 8000000
set_option linter.unusedVariables false
namespace Go.Proofs.YtnmplldhdfingaaGreatDoor
open Go.RowKit Go.Sort
def partitemr (y:PT)(L R G B:Nat):RSpec where
 m:=9
 n:=11
 slots:=[3,4,5,6,7,8,9,10,100008,100009,100010]
 kills:=[[],[],[],[],[],[],[],[],[],[],[8]]
 pres:=[[],[],[],[],[],[],[],[],[],[],[]]
 fact:=fun k v w=>match k with
  | 0=>v=.pointer (some ⟨G,0,none⟩)
  | 1=>v=.int .i64 y.attr
  | 2=>∃ a1 n1 c1 k1 m1 e1,v=.agg #[.int .i64 (numI y.attr).cls,.int .i64 (numI y.attr).tag,.bool (numI y.attr).cons,.slice a1 n1 c1,.slice k1 m1 e1]∧ItZ L R 1 w (numI y.attr) a1 n1 c1 k1 m1 e1∧L≤G∧G+1<R
  | 3=>v=.pointer (some ⟨G,1,none⟩)
  | 4=>v=.string y.val
  | 5=>∃ a2 n2 c2 k2 m2 e2,v=.agg #[.int .i64 (bytI (bytesOf y.val)).cls,.int .i64 (bytI (bytesOf y.val)).tag,.bool (bytI (bytesOf y.val)).cons,.slice a2 n2 c2,.slice k2 m2 e2]∧ItZ L R 1 w (bytI (bytesOf y.val)) a2 n2 c2 k2 m2 e2∧L≤G∧G+1<R
  | 6=>∃ gr,v=.slice (some ⟨gr,0,none⟩) 2 2∧KidZ L R w gr 2 [numI y.attr,bytI (bytesOf y.val)]∧L≤G∧G+1<R
  | 7=>∃ a0 n0 c0 k0 m0 e0,v=.agg #[.int .i64 (parI y).cls,.int .i64 (parI y).tag,.bool (parI y).cons,.slice a0 n0 c0,.slice k0 m0 e0]∧ItZ L R 2 w (parI y) a0 n0 c0 k0 m0 e0∧L≤G∧G+1<R
  | 8=>∃ a0 n0 c0 k0 m0 e0,w.heap[(G+1)]? = some (.cells #[.int .i64 (parI y).cls,.int .i64 (parI y).tag,.bool (parI y).cons,.slice a0 n0 c0,.slice k0 m0 e0] 94 (0,0))∧ItZ L R 2 w (parI y) a0 n0 c0 k0 m0 e0∧L≤G∧G+1<R
  | 9=>w.heap[G]? = some (.cells #[.int .i64 y.attr,.string y.val] 132 (0,0))
  | _=>w.heap[(G+1)]? = some (.cells #[.int .i64 0,.int .i64 0,.bool false,.slice none 0 0,.slice none 0 0] 94 (0,0))
theorem partitemr_stb (y:PT)(L R G B:Nat)(k:Nat)(hk:k<11):StB ((partitemr y L R G (B)).fact k):=by
 match k,hk with
 | 0,_=>exact fun _ _ _ h _=>h
 | 1,_=>exact fun _ _ _ h _=>h
 | 2,_=>exact fun _ _ _ ⟨a1,n1,c1,k1,m1,e1,hv,q_0,q_1⟩ hb=>⟨a1,n1,c1,k1,m1,e1,hv,q_0.kept hb,q_1⟩
 | 3,_=>exact fun _ _ _ h _=>h
 | 4,_=>exact fun _ _ _ h _=>h
 | 5,_=>exact fun _ _ _ ⟨a2,n2,c2,k2,m2,e2,hv,q_0,q_1⟩ hb=>⟨a2,n2,c2,k2,m2,e2,hv,q_0.kept hb,q_1⟩
 | 6,_=>exact fun _ _ _ ⟨gr,hv,q_0,q_1⟩ hb=>⟨gr,hv,q_0.kept hb,q_1⟩
 | 7,_=>exact fun _ _ _ ⟨a0,n0,c0,k0,m0,e0,hv,q_0,q_1⟩ hb=>⟨a0,n0,c0,k0,m0,e0,hv,q_0.kept hb,q_1⟩
 | 8,_=>exact fun _ _ _ ⟨a0,n0,c0,k0,m0,e0,q_0,q_1,q_2⟩ hb=>⟨a0,n0,c0,k0,m0,e0,below_kept q_0 hb,q_1.kept hb,q_2⟩
 | 9,_=>exact fun _ _ _ q_0 hb=>below_kept q_0 hb
 | 10,_=>exact fun _ _ _ q_0 hb=>below_kept q_0 hb
 | k+11,hk=>omega
theorem partitemr_st8 (y:PT)(L R G B:Nat){W W2:World}{cs:Array Value}{fr:Nat × Nat}(hg:W.heap[(G+1)]? = some (.cells cs 94 fr))(ht:Touch ((G+1)) ((G+1)+1) W W2)(k:Nat)(hk:k<11)(hne:k≠8)(hkill:8∉(partitemr y L R G (B)).kill k)(v:Value)(hfact:(partitemr y L R G (B)).fact k v W):(partitemr y L R G (B)).fact k v W2:=by
 match k,hk,hne,hkill,hfact with
 | 0,_,_,_,hq=>exact hq
 | 1,_,_,_,hq=>exact hq
 | 2,_,_,_,⟨a1,n1,c1,k1,m1,e1,hv,q_0,q_1⟩=>exact ⟨a1,n1,c1,k1,m1,e1,hv,q_0.touched ht (by omega),q_1⟩
 | 3,_,_,_,hq=>exact hq
 | 4,_,_,_,hq=>exact hq
 | 5,_,_,_,⟨a2,n2,c2,k2,m2,e2,hv,q_0,q_1⟩=>exact ⟨a2,n2,c2,k2,m2,e2,hv,q_0.touched ht (by omega),q_1⟩
 | 6,_,_,_,⟨gr,hv,q_0,q_1⟩=>exact ⟨gr,hv,q_0.touched ht (by omega),q_1⟩
 | 7,_,_,_,⟨a0,n0,c0,k0,m0,e0,hv,q_0,q_1⟩=>exact ⟨a0,n0,c0,k0,m0,e0,hv,q_0.touched ht (by omega),q_1⟩
 | 8,_,hne,_,_=>exact absurd rfl hne
 | 9,_,_,_,q_0=>exact box_box q_0 hg (by decide) ht
 | 10,_,_,hkill,_=>exact absurd (List.Mem.head _) hkill
 | k+11,hk,_,_,_=>omega
theorem partItem_R (y:PT)(L:Nat)(w:World)(hLw:L≤w.heap.size)(hy1:W64 y.attr)(hy2:y.val.size≤9223372036854775807) :
  Calls Tryz.prog 110 #[.agg #[.int .i64 y.attr,.string y.val]] w fun e w'=>ItR L w.heap.size 2 (parI y) e w'∧Below w.heap.size w w':=by
 obtain ⟨w1,hw1⟩:∃ w1,w1=(w.alloc (.cells #[.int .i64 y.attr,.string y.val] 132)).alloc (.cells #[.int .i64 0,.int .i64 0,.bool false,.slice none 0 0,.slice none 0 0] 94):=⟨_,rfl⟩
 have hbb:Below w.heap.size w w1:=by rw [hw1]; exact ((Below.refl _ _).alloc (Nat.le_refl _) _).alloc (by simp) _
 have HB1:Hid (_∧_):=two_blocks w (.cells #[.int .i64 y.attr,.string y.val] 132) (.cells #[.int .i64 0,.int .i64 0,.bool false,.slice none 0 0,.slice none 0 0] 94)
 rw [← hw1] at HB1
 have hsz:w1.heap.size=w.heap.size+2:=by rw [hw1]; simp
 have HGB:L≤w.heap.size∧w.heap.size+1<w1.heap.size:=⟨hLw,by omega⟩
 have HLB:∀ W,Below w.heap.size w1 W→L≤W.heap.size:=fun W hW=>by have:=hW.size; omega
 have HBB:w.heap.size≤w1.heap.size:=hbb.size
 have HW:Hid (_=_):=hw1
 clear hw1
 go_enter Tryz.func110,Tryz.ntmps110
 go_upto_region 1 with fail
 rw [← HW.out]
 clear HW
 have stb:=partitemr_stb y L w1.heap.size w.heap.size (w.heap.size)
 refine wp_region_ri (partitemr y L w1.heap.size w.heap.size (w.heap.size)) [3,4,5,6,7,8,9,10] (w.heap.size) (fun a0=>a0.tmps.size=11∧aT a0 1=.pointer (some ⟨w.heap.size,0,none⟩)∧aT a0 2=.pointer (some ⟨(w.heap.size+1),0,none⟩)) (by kernel_rfl) rfl (by kernel_rfl) rfl ⟨rfl,rfl,rfl⟩ stb ?_ ?_ ?_
 ·exact vt2 (m:=9) (HB1.out.1) (HB1.out.2)
 ·rintro a0 ⟨hz,g1,g2⟩
  refine StepsRI.cons ?_ (StepsRI.cons ?_ (StepsRI.cons ?_ (StepsRI.cons ?_ (StepsRI.cons ?_ (StepsRI.cons ?_ (StepsRI.cons ?_ (StepsRI.cons ?_ (StepsRI.cons ?_ (StepsRI.nil)))))))))
  all_goals intro lQ b W hI hUN hED KQ hKQ
  ·exact opw_field 132 1 0 rfl _ ((hI.fr.same 1 (by decide)).trans g1) _ (by kernel_rfl) (hKQ.out _ _ (hI.pu 0 3 hz hUN HBB stb (Below.refl _ _) rfl))
  ·have f:=hI.ge 0 hED
   have hg:=(hI.vo 9)
   have hc:W.cell? ⟨w.heap.size,0,none⟩=some (.int .i64 y.attr):=qk hg rfl
   exact opw_load1 2 3 rfl _ f _ (by simp [Instr.loadAt,go_sem,hc]) (hKQ.out _ _ (hI.pu 1 4 hz hUN HBB stb (Below.refl _ _) rfl))
  ·have f0:aT b 4=.int .i64 y.attr:=hI.ge 1 hED
   refine opw_c1 68 4 Tryz.func68 f0 ?_
   refine (numberItem_R y.attr L W hy1).mono ?_
   rintro r W2 ⟨⟨a1,n1,c1,k1,m1,e1,rfl,hzI⟩,hb⟩
   exact ⟨_,rfl,hKQ.out _ _ (hI.pu 2 5 hz hUN HBB stb hb ⟨a1,n1,c1,k1,m1,e1,rfl,((hzI.mono hI.bel.size).le (by decide)),HGB⟩)⟩
  ·exact opw_field 132 1 1 rfl _ ((hI.fr.same 1 (by decide)).trans g1) _ (by kernel_rfl) (hKQ.out _ _ (hI.pu 3 6 hz hUN HBB stb (Below.refl _ _) rfl))
  ·have f:=hI.ge 3 hED
   have hg:=(hI.vo 9)
   have hc:W.cell? ⟨w.heap.size,1,none⟩=some (.string y.val):=qk hg rfl
   exact opw_load1 9 6 rfl _ f _ (by simp [Instr.loadAt,go_sem,hc]) (hKQ.out _ _ (hI.pu 4 7 hz hUN HBB stb (Below.refl _ _) rfl))
  ·have f0:aT b 7=.string y.val:=hI.ge 4 hED
   refine opw_c1 131 7 Tryz.func131 f0 ?_
   refine (textItem_R y.val L W hy2 (HLB W hI.bel)).mono ?_
   rintro r W2 ⟨⟨a2,n2,c2,k2,m2,e2,rfl,hzI⟩,hb⟩
   exact ⟨_,rfl,hKQ.out _ _ (hI.pu 5 8 hz hUN HBB stb hb ⟨a2,n2,c2,k2,m2,e2,rfl,((hzI.mono hI.bel.size).le (by decide)),HGB⟩)⟩
  ·obtain ⟨a1,n1,c1,k1,m1,e1,f1,o1,_⟩:=hI.ge 2 hED
   replace f1:aT b 5=_:=f1
   obtain ⟨a2,n2,c2,k2,m2,e2,f2,o2,_⟩:=hI.ge 5 hED
   replace f2:aT b 8=_:=f2
   refine opw_buildSliceT _ 2 _ rfl #[(0,.agg #[.int .i64 (numI y.attr).cls,.int .i64 (numI y.attr).tag,.bool (numI y.attr).cons,.slice a1 n1 c1,.slice k1 m1 e1]),(1,.agg #[.int .i64 (bytI (bytesOf y.val)).cls,.int .i64 (bytI (bytesOf y.val)).tag,.bool (bytI (bytesOf y.val)).cons,.slice a2 n2 c2,.slice k2 m2 e2])] (by simp [ev,f1,f2]) (.slice (some ⟨W.heap.size,0,none⟩) 2 2) (W.alloc (.cells #[.int .i64 (numI y.attr).cls,.int .i64 (numI y.attr).tag,.bool (numI y.attr).cons,.slice a1 n1 c1,.slice k1 m1 e1,.int .i64 (bytI (bytesOf y.val)).cls,.int .i64 (bytI (bytesOf y.val)).tag,.bool (bytI (bytesOf y.val)).cons,.slice a2 n2 c2,.slice k2 m2 e2] 94)) (by kernel_rfl) ?_
   exact hKQ.out _ _ (hI.pu 6 9 hz hUN HBB stb ((Below.refl _ _).alloc (Nat.le_refl _) _) ⟨W.heap.size,rfl,kidZ_n2 hI.bel.size o1 o2,HGB⟩)
  ·obtain ⟨gr,f0,o0,_⟩:=hI.ge 6 hED
   replace f0:aT b 9=_:=f0
   refine opw_c1 108 9 Tryz.func108 f0 ?_
   refine (structItem_R o0 rfl).mono ?_
   rintro r W2 ⟨⟨a0,n0,c0,k0,m0,e0,rfl,hzI⟩,hb⟩
   exact ⟨_,rfl,hKQ.out _ _ (hI.pu 7 10 hz hUN HBB stb hb ⟨a0,n0,c0,k0,m0,e0,rfl,hzI,HGB⟩)⟩
  ·have hgb:=(hI.vot1 10 8 (od rfl) (od rfl) hUN rfl)
   have fb:=((hI.fr.same 2 (by decide)).trans g2)
   have f:=hI.ge 7 hED
   obtain ⟨a0,n0,c0,k0,m0,e0,f,o_0,o_1⟩:=f
   refine wp_store_row 94 _ _ rfl ((w.heap.size+1)) _ fb f 94 _ hgb (by kernel_rfl) rfl (by simp [Value.oneCell']) ?_
   have ht:=setRow_touch W ((w.heap.size+1)) #[.int .i64 (parI y).cls,.int .i64 (parI y).tag,.bool (parI y).cons,.slice a0 n0 c0,.slice k0 m0 e0]
   exact hKQ.out _ _ (hI.store 8 (fun j hj=>by cases hj) (hI.bel.trans (ht.below (by first | exact HGE2 | omega) (Nat.le_trans HBB hI.bel.size))) (partitemr_st8 y L w1.heap.size w.heap.size (w.heap.size) hgb ht) ⟨a0,n0,c0,k0,m0,e0,(setRow_heap W ((w.heap.size+1)) _ _ _ _ hgb),o_0.touched ht (by omega),o_1⟩)
 ·intro b W hf hb F
  clear stb
  obtain ⟨a0,n0,c0,k0,m0,e0,hbx,hz,_⟩:=F 8 (od rfl) rfl
  rw [hf.eq]
  simp only [puts,Act.put,List.setIfInBounds_toArray,List.set_cons_zero,List.set_cons_succ]
  clear hf F
  generalize aT b=AT
  clear b
  go_wp2
  try simp only [Exit.inBlock,Exit.then]
  exact bodyPost_ret (results_it rfl _ (w.heap.size+1) rfl _ _ _ _ _ _ hbx) rfl ⟨⟨a0,n0,c0,k0,m0,e0,rfl,hz.mono hbb.size⟩,hbb.trans hb⟩
theorem Par_next (xs:List PT)(k:Nat)(h:k<xs.length):(xs.take (k+1)).map parI=(xs.take k).map parI++[parI (xs.getD k default)]:=by
 rw [List.take_add_one,List.map_append]
 simp [h]
theorem eachPar_R (a:Option Addr)(n c:Nat)(xs:List PT)(L:Nat)(w:World)(hLw:L≤w.heap.size)(h:Pts w a n xs)(hw:∀ k,k<n→W64 (xs.getD k default).attr)(hn:n≤1000) :
  Calls Tryz.prog 130 #[.slice a n c,.func (Fn.func 110) #[] #[]] w fun e w'=>∃ ao co,e=.returned (.slice ao n co)∧OwnItZ 2 L w.heap.size w' ao n co (xs.map parI)∧Below w.heap.size w w':=by
 obtain ⟨i0,hi,hz0,hz1,hz2⟩:=info_parts Tryz.infoIt
 have H0:Hid (Pts w a n xs):=h
 have HPw:Hid (∀ k,k<n→W64 (xs.getD k default).attr):=hw
 have HLX:Hid (xs.length=n):=h.len
 clear h hw
 go_enter Tryz.func130,Tryz.ntmps130
 go_wp2
 go_loopw [5,10] (fun o i wr=>∃ (k:Nat) (ao:Option Addr) (cc:Nat),k≤n∧i=.int .i64 k∧o=.slice ao k cc∧Hid (OwnItZ 2 L w.heap.size wr ao k cc ((xs.take k).map parI))∧Below w.heap.size w wr) (fun _ i _=>n - (intOf i).toNat)
 case atStart=>exact ⟨0,none,0,Nat.zero_le _,rfl,rfl,ownItZ_none _ _ _ _,Below.refl _ _⟩
 case round =>
  obtain ⟨k,ao,cc,hk,rfl,rfl,HO,hbr⟩:=hrel
  have hws:=hbr.size
  by_cases hlt:k<n
  ·obtain ⟨b,off,rfl,hlb,hc,hsz⟩:=H0.out.get k hlt
   obtain ⟨y,hy⟩:∃ y,y=xs.getD k default:=⟨_,rfl⟩
   rw [← hy] at hc hsz
   have HYW:Hid (W64 y.attr):=by show W64 _; rw [hy]; exact HPw.out k hlt
   have HYS:Hid (y.val.size≤9223372036854775807):=hsz
   obtain ⟨z,hz⟩:∃ z,z=parI y:=⟨_,rfl⟩
   have HXK:Hid ((xs.take (k+1)).map parI=(xs.take k).map parI++[z]):=by show _=_; rw [hz,hy]; exact Par_next xs k (by rw [HLX.out]; exact hlt)
   obtain ⟨c0,c1⟩:=hc.of (w':=wr) (fun i=>hbr.cell (p:=⟨b,i,none⟩) hlb)
   clear hc hsz
   have hkni:(k:Int)<(n:Int):=by omega
   have hbw:b<wr.heap.size:=by omega
   have hbz:Below wr.heap.size wr (wr.alloc (.cells #[.int .i64 y.attr,.string y.val] 132)):=(Below.refl _ _).alloc (Nat.le_refl _) _
   have hbz2:Below w.heap.size w (wr.alloc (.cells #[.int .i64 y.attr,.string y.val] 132)):=hbr.trans (hbz.mono hws)
   have HCON:Hid (Calls Tryz.prog 110 #[.agg #[.int .i64 y.attr,.string y.val]] (wr.alloc (.cells #[.int .i64 y.attr,.string y.val] 132)) fun e w'=>ItR L (wr.alloc (.cells #[.int .i64 y.attr,.string y.val] 132)).heap.size 2 z e w'∧Below (wr.alloc (.cells #[.int .i64 y.attr,.string y.val] 132)).heap.size (wr.alloc (.cells #[.int .i64 y.attr,.string y.val] 132)) w'):=by rw [hz]; exact partItem_R y L _ (by have:=hbz.size; omega) HYW.out HYS.out
   clear hy hz
   go_wp2_with fail
   refine HCON.out.mono ?_
   rintro e w2 ⟨⟨ab,nb,cb,ak,nk,ck,rfl,hit⟩,hb2⟩
   have hb2r:Below wr.heap.size wr w2:=keepT hbz hb2
   have B2:Below w.heap.size w w2:=hbr.trans (hb2r.mono hws)
   have hal:Below w2.heap.size w2 (w2.alloc (.cells #[.int .i64 z.cls,.int .i64 z.tag,.bool z.cons,.slice ab nb cb,.slice ak nk ck] 94)):=(Below.refl _ _).alloc (Nat.le_refl _) _
   have B6:Below w.heap.size w (w2.alloc (.cells #[.int .i64 z.cls,.int .i64 z.tag,.bool z.cons,.slice ab nb cb,.slice ak nk ck] 94)):=B2.trans (hal.mono B2.size)
   have hs6:(w2.alloc (.cells #[.int .i64 z.cls,.int .i64 z.tag,.bool z.cons,.slice ab nb cb,.slice ak nk ck] 94)).heap.size=w2.heap.size+1:=by simp
   have hs2:=hb2r.size
   have hsz1:=hbz.size
   have HQ3:Hid (OwnItZ 2 L w.heap.size (w2.alloc (.cells #[.int .i64 z.cls,.int .i64 z.tag,.bool z.cons,.slice ab nb cb,.slice ak nk ck] 94)) ao k cc ((xs.take k).map parI)):=(HO.out.kept hb2r).kept hal
   obtain ⟨vs,hrow⟩:=HQ3.out.row
   have HROW:Hid (_):=hrow
   have hown:∀ b,(Value.slice ao k cc).ownBlock=some b→w.heap.size≤b∧b<wr.heap.size:=fun b hb=>by obtain ⟨vs0,hv0⟩:=HO.out.row; exact ⟨HO.out.2 b hb,(hv0.lt b hb).2⟩
   have HAPP:Hid (∀ g7 c7 w7,w7.ownsRow 0 94 5 (.slice (some ⟨g7,0,none⟩) (k+1) c7) (k+1) (vs++itc z ab nb cb ak nk ck)→(w2.alloc (.cells #[.int .i64 z.cls,.int .i64 z.tag,.bool z.cons,.slice ab nb cb,.slice ak nk ck] 94)).grownBy w7 (Value.slice ao k cc).ownBlock→((Value.slice ao k cc).ownBlock=some g7∨g7=w2.heap.size+1)→OwnItZ 2 L w.heap.size w7 (some ⟨g7,0,none⟩) (k+1) c7 ((xs.take (k+1)).map parI)∧Below w.heap.size w w7):=by
    intro g7 c7 w7 hv7 hg7 hl7
    have hit2:=hit.kept hal
    rw [HXK.out]
    refine ⟨HQ3.out.appended hit2.it (fun b hb=>⟨by have:=hb.1; omega,hb.2,fun e=>by have:=hown b e; have:=hb.1; omega⟩) (by omega) HROW.out hv7 hg7 (by rw [hs6]; exact hl7) B6.size,B6.grown hg7 (by have:=B6.size; omega) (fun kx hx=>HQ3.out.2 kx hx)⟩
   clear c0 c1 hrow HO hb2 hb2r B2 hal hbz hbz2 hit HCON
   go_wp2_with (at_builtin; refine wpList_append_lies _ rfl (.tmp 14) (.tmp 18) 92 rfl 0 94 i0 _ 5 72 Tryz.underlying92 hi hz0 hz1 hz2 rfl (by decide) _ k vs rfl HROW.out ⟨w2.heap.size,0,none⟩ 1 1 [.int .i64 z.cls,.int .i64 z.tag,.bool z.cons,.slice ab nb cb,.slice ak nk ck] rfl rfl (World.news_of_block (heap_alloc_new w2 (.cells #[.int .i64 z.cls,.int .i64 z.tag,.bool z.cons,.slice ab nb cb,.slice ak nk ck] 94))) (by intro u hu; simp only [List.mem_cons,List.not_mem_nil,or_false] at hu; rcases hu with rfl | rfl | rfl | rfl | rfl <;> rfl) (by decide) (by unfold maxLen; omega) (by omega) (Nat.zero_le _) (w2.heap.size+1) (by simp) ?_; intro g7 c7 w7 hv7 hg7 hl7 hlt7; have HN7:=HAPP.out g7 c7 w7 hv7 hg7 hl7; have HO7:Hid (_):=HN7.1; have B7:=HN7.2; clear hv7 hg7 hl7 hlt7 HN7 HAPP HQ3 HROW)
   go_roundw
   case rel=>exact ⟨k+1,_,c7,by omega,by go_num,rfl,HO7,B7⟩
   case measure=>simp [intOf]; omega
  ·obtain rfl:k=n:=by omega
   have HX:Hid (xs.take k=xs):=by show _=_; rw [List.take_of_length_le (by rw [HLX.out]; exact Nat.le_refl _)]
   go_wp2
   go_ret
   refine ⟨ao,cc,rfl,?_,hbr⟩
   have:=HO.out
   rw [HX.out] at this
   exact this
theorem listItemPar_R (a:Option Addr)(n c:Nat)(xs:List PT)(L:Nat)(w:World)(hLw:L≤w.heap.size)(h:Pts w a n xs)(hw:∀ k,k<n→W64 (xs.getD k default).attr)(hn:n≤1000) :
  Calls Tryz.prog 109 #[.slice a n c,.func (Fn.func 110) #[] #[]] w fun e w'=>ItR L w.heap.size 3 (lstI (xs.map parI)) e w'∧Below w.heap.size w w':=by
 have hbx:=box5_below w
 have hsz:=box5_size w
 have HB5:Hid (_=_):=box5_new w
 have HE:Hid (_):=eachPar_R a n c xs L (box5 w) (by omega) (h.kept hbx) hw hn
 clear h hw
 go_enter Tryz.func109,Tryz.ntmps109
 go_wp2_with fail
 refine Calls.mono HE.out ?_
 rintro e w2 ⟨ao,co,rfl,ho,hb2⟩
 have HK:Hid (KidsI 3 (fun b=>(b<L∨(box5 w).heap.size≤b)∧b<w2.heap.size) w2 ao n (xs.map parI)):=ho.kids
 have h5:=below_kept HB5.out hb2
 obtain ⟨_,q0,q1,q2,q3,q4,q5,q6,q7,q8,q9⟩:=Box5.of h5
 have H5:Hid (_=_):=h5
 have B2:Below w.heap.size w w2:=keepT hbx hb2
 have hs2:=hb2.size
 clear ho h5 hb2 HE
 go_wp2_with fail
 try simp only [Exit.inBlock,Exit.then]
 have T:=put5_touch w2 w.heap.size (.int .i64 0) (.int .i64 17) (.bool true) (.slice none 0 0) (.slice ao n co)
 have hZ:ListZ L (w.heap.size+1) 3 w2 ao n (xs.map parI):=⟨HK.out.mono (fun b hb=>⟨by have:=hb.1; omega,hb.2⟩)⟩
 exact bodyPost_ret (results_it rfl _ w.heap.size rfl _ _ _ _ _ _ (put5_heap H5.out _ _ _ _ _)) rfl ⟨⟨_,_,_,_,_,_,rfl,(hZ.itz (co:=co)).put hLw (by omega) _ _ _ _ _⟩,B2.trans (T.below (Nat.le_refl _) B2.size)⟩
def nameitemr (a:Option Addr)(n c:Nat)(xs:List PT)(L R G B:Nat):RSpec where
 m:=6
 n:=8
 slots:=[3,4,5,6,7,100005,100006,100007]
 kills:=[[],[],[],[],[],[],[],[5]]
 pres:=[[],[],[],[],[],[],[],[]]
 fact:=fun k v w=>match k with
  | 0=>v=.pointer (some ⟨G,0,none⟩)
  | 1=>v=.slice a n c
  | 2=>∃ a1 n1 c1 k1 m1 e1,v=.agg #[.int .i64 (lstI (xs.map parI)).cls,.int .i64 (lstI (xs.map parI)).tag,.bool (lstI (xs.map parI)).cons,.slice a1 n1 c1,.slice k1 m1 e1]∧ItZ L R 3 w (lstI (xs.map parI)) a1 n1 c1 k1 m1 e1∧L≤G∧G+1<R
  | 3=>∃ gr,v=.slice (some ⟨gr,0,none⟩) 1 1∧KidZ L R w gr 4 [lstI (xs.map parI)]∧L≤G∧G+1<R
  | 4=>∃ a0 n0 c0 k0 m0 e0,v=.agg #[.int .i64 (namI xs).cls,.int .i64 (namI xs).tag,.bool (namI xs).cons,.slice a0 n0 c0,.slice k0 m0 e0]∧ItZ L R 4 w (namI xs) a0 n0 c0 k0 m0 e0∧L≤G∧G+1<R
  | 5=>∃ a0 n0 c0 k0 m0 e0,w.heap[(G+1)]? = some (.cells #[.int .i64 (namI xs).cls,.int .i64 (namI xs).tag,.bool (namI xs).cons,.slice a0 n0 c0,.slice k0 m0 e0] 94 (0,0))∧ItZ L R 4 w (namI xs) a0 n0 c0 k0 m0 e0∧L≤G∧G+1<R
  | 6=>w.heap[G]? = some (.cells #[.slice a n c] 35 (0,0))
  | _=>w.heap[(G+1)]? = some (.cells #[.int .i64 0,.int .i64 0,.bool false,.slice none 0 0,.slice none 0 0] 94 (0,0))
theorem nameitemr_stb (a:Option Addr)(n c:Nat)(xs:List PT)(L R G B:Nat)(k:Nat)(hk:k<8):StB ((nameitemr a n c xs L R G (B)).fact k):=by
 match k,hk with
 | 0,_=>exact fun _ _ _ h _=>h
 | 1,_=>exact fun _ _ _ h _=>h
 | 2,_=>exact fun _ _ _ ⟨a1,n1,c1,k1,m1,e1,hv,q_0,q_1⟩ hb=>⟨a1,n1,c1,k1,m1,e1,hv,q_0.kept hb,q_1⟩
 | 3,_=>exact fun _ _ _ ⟨gr,hv,q_0,q_1⟩ hb=>⟨gr,hv,q_0.kept hb,q_1⟩
 | 4,_=>exact fun _ _ _ ⟨a0,n0,c0,k0,m0,e0,hv,q_0,q_1⟩ hb=>⟨a0,n0,c0,k0,m0,e0,hv,q_0.kept hb,q_1⟩
 | 5,_=>exact fun _ _ _ ⟨a0,n0,c0,k0,m0,e0,q_0,q_1,q_2⟩ hb=>⟨a0,n0,c0,k0,m0,e0,below_kept q_0 hb,q_1.kept hb,q_2⟩
 | 6,_=>exact fun _ _ _ q_0 hb=>below_kept q_0 hb
 | 7,_=>exact fun _ _ _ q_0 hb=>below_kept q_0 hb
 | k+8,hk=>omega
theorem nameitemr_st5 (a:Option Addr)(n c:Nat)(xs:List PT)(L R G B:Nat){W W2:World}{cs:Array Value}{fr:Nat × Nat}(hg:W.heap[(G+1)]? = some (.cells cs 94 fr))(ht:Touch ((G+1)) ((G+1)+1) W W2)(k:Nat)(hk:k<8)(hne:k≠5)(hkill:5∉(nameitemr a n c xs L R G (B)).kill k)(v:Value)(hfact:(nameitemr a n c xs L R G (B)).fact k v W):(nameitemr a n c xs L R G (B)).fact k v W2:=by
 match k,hk,hne,hkill,hfact with
 | 0,_,_,_,hq=>exact hq
 | 1,_,_,_,hq=>exact hq
 | 2,_,_,_,⟨a1,n1,c1,k1,m1,e1,hv,q_0,q_1⟩=>exact ⟨a1,n1,c1,k1,m1,e1,hv,q_0.touched ht (by omega),q_1⟩
 | 3,_,_,_,⟨gr,hv,q_0,q_1⟩=>exact ⟨gr,hv,q_0.touched ht (by omega),q_1⟩
 | 4,_,_,_,⟨a0,n0,c0,k0,m0,e0,hv,q_0,q_1⟩=>exact ⟨a0,n0,c0,k0,m0,e0,hv,q_0.touched ht (by omega),q_1⟩
 | 5,_,hne,_,_=>exact absurd rfl hne
 | 6,_,_,_,q_0=>exact box_box q_0 hg (by decide) ht
 | 7,_,_,hkill,_=>exact absurd (List.Mem.head _) hkill
 | k+8,hk,_,_,_=>omega
theorem nameItem_R (a:Option Addr)(n c:Nat)(xs:List PT)(L:Nat)(w:World)(hLw:L≤w.heap.size)(h:Pts w a n xs)(hw:∀ k,k<n→W64 (xs.getD k default).attr)(hn:n≤1000) :
  Calls Tryz.prog 67 #[.agg #[.slice a n c]] w fun e w'=>ItR L w.heap.size 4 (namI xs) e w'∧Below w.heap.size w w':=by
 obtain ⟨w1,hw1⟩:∃ w1,w1=(w.alloc (.cells #[.slice a n c] 35)).alloc (.cells #[.int .i64 0,.int .i64 0,.bool false,.slice none 0 0,.slice none 0 0] 94):=⟨_,rfl⟩
 have hbb:Below w.heap.size w w1:=by rw [hw1]; exact ((Below.refl _ _).alloc (Nat.le_refl _) _).alloc (by simp) _
 have HB1:Hid (_∧_):=two_blocks w (.cells #[.slice a n c] 35) (.cells #[.int .i64 0,.int .i64 0,.bool false,.slice none 0 0,.slice none 0 0] 94)
 rw [← hw1] at HB1
 have hsz:w1.heap.size=w.heap.size+2:=by rw [hw1]; simp
 have HGB:L≤w.heap.size∧w.heap.size+1<w1.heap.size:=⟨hLw,by omega⟩
 have HLB:∀ W,Below w.heap.size w1 W→L≤W.heap.size:=fun W hW=>by have:=hW.size; omega
 have HBB:w.heap.size≤w1.heap.size:=hbb.size
 have HW:Hid (_=_):=hw1
 clear hw1
 go_enter Tryz.func67,Tryz.ntmps67
 go_upto_region 1 with fail
 rw [← HW.out]
 clear HW
 have stb:=nameitemr_stb a n c xs L w1.heap.size w.heap.size (w.heap.size)
 refine wp_region_rp (nameitemr a n c xs L w1.heap.size w.heap.size (w.heap.size)) [3,4,5,6,7] (w.heap.size) (fun a0=>a0.tmps.size=8∧aT a0 1=.pointer (some ⟨w.heap.size,0,none⟩)∧aT a0 2=.pointer (some ⟨(w.heap.size+1),0,none⟩)) rfl (by kernel_rfl) rfl ⟨rfl,rfl,rfl⟩ stb ?_ ?_ ?_
 ·exact vt2 (m:=6) (HB1.out.1) (HB1.out.2)
 ·rintro a0 ⟨hz,g1,g2⟩
  refine StepsRI.cons ?_ (StepsRI.cons ?_ (StepsRI.cons ?_ (StepsRI.cons ?_ (StepsRI.cons ?_ (StepsRI.cons ?_ (StepsRI.nil))))))
  all_goals intro lQ b W hI hUN hED KQ hKQ
  ·exact opw_field 35 1 0 rfl _ ((hI.fr.same 1 (by decide)).trans g1) _ (by kernel_rfl) (hKQ.out _ _ (hI.pu 0 3 hz hUN HBB stb (Below.refl _ _) rfl))
  ·have f:=hI.ge 0 hED
   have hg:=(hI.vo 6)
   have hc:W.cell? ⟨w.heap.size,0,none⟩=some (.slice a n c):=qk hg rfl
   exact opw_load1 33 3 rfl _ f _ (by simp [Instr.loadAt,go_sem,hc]) (hKQ.out _ _ (hI.pu 1 4 hz hUN HBB stb (Below.refl _ _) rfl))
  ·have f0:aT b 4=.slice a n c:=hI.ge 1 hED
   refine opw_call 109 #[.tmp 4,.func 110] _ _ _ rfl Tryz.func109 (by kernel_rfl) rfl #[.slice a n c,.func (Fn.func 110) #[] #[]] (by simp [ev,f0]; rfl) ?_
   refine (listItemPar_R a n c xs L W (HLB W hI.bel) (h.kept (hbb.trans hI.bel)) hw hn).mono ?_
   rintro r W2 ⟨⟨a1,n1,c1,k1,m1,e1,rfl,hzI⟩,hb⟩
   exact ⟨_,rfl,hKQ.out _ _ (hI.pu 2 5 hz hUN HBB stb hb ⟨a1,n1,c1,k1,m1,e1,rfl,((hzI.mono hI.bel.size).le (by decide)),HGB⟩)⟩
  ·obtain ⟨a1,n1,c1,k1,m1,e1,f1,o1,_⟩:=hI.ge 2 hED
   replace f1:aT b 5=_:=f1
   refine opw_buildSliceT _ 1 _ rfl #[(0,.agg #[.int .i64 (lstI (xs.map parI)).cls,.int .i64 (lstI (xs.map parI)).tag,.bool (lstI (xs.map parI)).cons,.slice a1 n1 c1,.slice k1 m1 e1])] (by simp [ev,f1]) (.slice (some ⟨W.heap.size,0,none⟩) 1 1) (W.alloc (.cells #[.int .i64 (lstI (xs.map parI)).cls,.int .i64 (lstI (xs.map parI)).tag,.bool (lstI (xs.map parI)).cons,.slice a1 n1 c1,.slice k1 m1 e1] 94)) (by kernel_rfl) ?_
   exact hKQ.out _ _ (hI.pu 3 6 hz hUN HBB stb ((Below.refl _ _).alloc (Nat.le_refl _) _) ⟨W.heap.size,rfl,kidZ_n1 hI.bel.size o1,HGB⟩)
  ·obtain ⟨gr,f0,o0,_⟩:=hI.ge 3 hED
   replace f0:aT b 6=_:=f0
   refine opw_c1 108 6 Tryz.func108 f0 ?_
   refine (structItem_R o0 rfl).mono ?_
   rintro r W2 ⟨⟨a0,n0,c0,k0,m0,e0,rfl,hzI⟩,hb⟩
   exact ⟨_,rfl,hKQ.out _ _ (hI.pu 4 7 hz hUN HBB stb hb ⟨a0,n0,c0,k0,m0,e0,rfl,hzI,HGB⟩)⟩
  ·have hgb:=(hI.vot1 7 5 (od rfl) (od rfl) hUN rfl)
   have fb:=((hI.fr.same 2 (by decide)).trans g2)
   have f:=hI.ge 4 hED
   obtain ⟨a0,n0,c0,k0,m0,e0,f,o_0,o_1⟩:=f
   refine wp_store_row 94 _ _ rfl ((w.heap.size+1)) _ fb f 94 _ hgb (by kernel_rfl) rfl (by simp [Value.oneCell']) ?_
   have ht:=setRow_touch W ((w.heap.size+1)) #[.int .i64 (namI xs).cls,.int .i64 (namI xs).tag,.bool (namI xs).cons,.slice a0 n0 c0,.slice k0 m0 e0]
   exact hKQ.out _ _ (hI.store 5 (fun j hj=>by cases hj) (hI.bel.trans (ht.below (by first | exact HGE2 | omega) (Nat.le_trans HBB hI.bel.size))) (nameitemr_st5 a n c xs L w1.heap.size w.heap.size (w.heap.size) hgb ht) ⟨a0,n0,c0,k0,m0,e0,(setRow_heap W ((w.heap.size+1)) _ _ _ _ hgb),o_0.touched ht (by omega),o_1⟩)
 ·intro b W hf hb F
  clear stb
  obtain ⟨a0,n0,c0,k0,m0,e0,hbx,hz,_⟩:=F 5 (od rfl) rfl
  rw [hf.eq]
  simp only [puts,Act.put,List.setIfInBounds_toArray,List.set_cons_zero,List.set_cons_succ]
  clear hf F
  generalize aT b=AT
  clear b
  go_wp2
  try simp only [Exit.inBlock,Exit.then]
  exact bodyPost_ret (results_it rfl _ (w.heap.size+1) rfl _ _ _ _ _ _ hbx) rfl ⟨⟨a0,n0,c0,k0,m0,e0,rfl,hz.mono hbb.size⟩,hbb.trans hb⟩
end Go.Proofs.YtnmplldhdfingaaGreatDoor
