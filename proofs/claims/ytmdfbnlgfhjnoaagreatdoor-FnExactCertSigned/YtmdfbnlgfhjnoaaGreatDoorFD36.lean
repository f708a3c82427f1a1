import Derived.Test.YtmdfbnlgfhjnoaaGreatDoorFD35
set_option maxRecDepth 10000
set_option maxHeartbeats 8000000
set_option linter.unusedVariables false
namespace Go.Proofs.YtmdfbnlgfhjnoaaGreatDoor
open Go.RowKit Go.Sort
def mapitemr (y:Int × Int)(L R G B:Nat):RSpec where
 m:=9
 n:=11
 slots:=[3,4,5,6,7,8,9,10,100008,100009,100010]
 kills:=[[],[],[],[],[],[],[],[],[],[],[8]]
 pres:=[[],[],[],[],[],[],[],[],[],[],[]]
 fact:=fun k v w=>match k with
  | 0=>v=.pointer (some ⟨G,0,none⟩)
  | 1=>v=.int .i64 y.1
  | 2=>∃ a1 n1 c1 k1 m1 e1,v=.agg #[.int .i64 (numI y.1).cls,.int .i64 (numI y.1).tag,.bool (numI y.1).cons,.slice a1 n1 c1,.slice k1 m1 e1]∧ItZ L R 1 w (numI y.1) a1 n1 c1 k1 m1 e1∧L≤G∧G+1<R
  | 3=>v=.pointer (some ⟨G,1,none⟩)
  | 4=>v=.int .i64 y.2
  | 5=>∃ a2 n2 c2 k2 m2 e2,v=.agg #[.int .i64 (numI y.2).cls,.int .i64 (numI y.2).tag,.bool (numI y.2).cons,.slice a2 n2 c2,.slice k2 m2 e2]∧ItZ L R 1 w (numI y.2) a2 n2 c2 k2 m2 e2∧L≤G∧G+1<R
  | 6=>∃ gr,v=.slice (some ⟨gr,0,none⟩) 2 2∧KidZ L R w gr 2 [numI y.1,numI y.2]∧L≤G∧G+1<R
  | 7=>∃ a0 n0 c0 k0 m0 e0,v=.agg #[.int .i64 (mapI y).cls,.int .i64 (mapI y).tag,.bool (mapI y).cons,.slice a0 n0 c0,.slice k0 m0 e0]∧ItZ L R 2 w (mapI y) a0 n0 c0 k0 m0 e0∧L≤G∧G+1<R
  | 8=>∃ a0 n0 c0 k0 m0 e0,w.heap[(G+1)]? = some (.cells #[.int .i64 (mapI y).cls,.int .i64 (mapI y).tag,.bool (mapI y).cons,.slice a0 n0 c0,.slice k0 m0 e0] 75 (0,0))∧ItZ L R 2 w (mapI y) a0 n0 c0 k0 m0 e0∧L≤G∧G+1<R
  | 9=>w.heap[G]? = some (.cells #[.int .i64 y.1,.int .i64 y.2] 115 (0,0))
  | _=>w.heap[(G+1)]? = some (.cells #[.int .i64 0,.int .i64 0,.bool false,.slice none 0 0,.slice none 0 0] 75 (0,0))
theorem mapitemr_stb (y:Int × Int)(L R G B:Nat)(k:Nat)(hk:k<11):StB ((mapitemr y L R G (B)).fact k):=by
 match k,hk with
 | 0,_=>exact fun _ _ _ h _=>h
 | 1,_=>exact fun _ _ _ h _=>h
 | 2,_=>exact fun _ _ _ ⟨a1,n1,c1,k1,m1,e1,hv,q_0,q_1⟩ hb=>⟨a1,n1,c1,k1,m1,e1,hv,q_0.kept hb,q_1⟩
 | 3,_=>exact fun _ _ _ h _=>h
 | 4,_=>exact fun _ _ _ h _=>h
 | 5,_=>exact fun _ _ _ ⟨a2,n2,c2,k2,m2,e2,hv,q_0,q_1⟩ hb=>⟨a2,n2,c2,k2,m2,e2,hv,q_0.kept hb,q_1⟩
 | 6,_=>exact fun _ _ _ ⟨gr,hv,q_0,q_1⟩ hb=>⟨gr,hv,q_0.kept hb,q_1⟩
 | 7,_=>exact fun _ _ _ ⟨a0,n0,c0,k0,m0,e0,hv,q_0,q_1⟩ hb=>⟨a0,n0,c0,k0,m0,e0,hv,q_0.kept hb,q_1⟩
 | 8,_=>exact fun _ _ _ ⟨a0,n0,c0,k0,m0,e0,q_0,q_1,q_2⟩ hb=>⟨a0,n0,c0,k0,m0,e0,below_kept q_0 hb,q_1.kept hb,q_2⟩
 | 9,_=>exact fun _ _ _ q_0 hb=>below_kept q_0 hb
 | 10,_=>exact fun _ _ _ q_0 hb=>below_kept q_0 hb
 | k+11,hk=>omega
theorem mapitemr_st8 (y:Int × Int)(L R G B:Nat){W W2:World}{cs:Array Value}{fr:Nat × Nat}(hg:W.heap[(G+1)]? = some (.cells cs 75 fr))(ht:Touch ((G+1)) ((G+1)+1) W W2)(k:Nat)(hk:k<11)(hne:k≠8)(hkill:8∉(mapitemr y L R G (B)).kill k)(v:Value)(hfact:(mapitemr y L R G (B)).fact k v W):(mapitemr y L R G (B)).fact k v W2:=by
 match k,hk,hne,hkill,hfact with
 | 0,_,_,_,hq=>exact hq
 | 1,_,_,_,hq=>exact hq
 | 2,_,_,_,⟨a1,n1,c1,k1,m1,e1,hv,q_0,q_1⟩=>exact ⟨a1,n1,c1,k1,m1,e1,hv,q_0.touched ht (by omega),q_1⟩
 | 3,_,_,_,hq=>exact hq
 | 4,_,_,_,hq=>exact hq
 | 5,_,_,_,⟨a2,n2,c2,k2,m2,e2,hv,q_0,q_1⟩=>exact ⟨a2,n2,c2,k2,m2,e2,hv,q_0.touched ht (by omega),q_1⟩
 | 6,_,_,_,⟨gr,hv,q_0,q_1⟩=>exact ⟨gr,hv,q_0.touched ht (by omega),q_1⟩
 | 7,_,_,_,⟨a0,n0,c0,k0,m0,e0,hv,q_0,q_1⟩=>exact ⟨a0,n0,c0,k0,m0,e0,hv,q_0.touched ht (by omega),q_1⟩
 | 8,_,hne,_,_=>exact absurd rfl hne
 | 9,_,_,_,q_0=>exact box_box q_0 hg (by decide) ht
 | 10,_,_,hkill,_=>exact absurd (List.Mem.head _) hkill
 | k+11,hk,_,_,_=>omega
theorem mapItem_R (y:Int × Int)(L:Nat)(w:World)(hLw:L≤w.heap.size)(hy1:W64 y.1)(hy2:W64 y.2) :
  Calls Tryz.prog 109 #[.agg #[.int .i64 y.1,.int .i64 y.2]] w fun e w'=>ItR L w.heap.size 2 (mapI y) e w'∧Below w.heap.size w w':=by
 obtain ⟨w1,hw1⟩:∃ w1,w1=(w.alloc (.cells #[.int .i64 y.1,.int .i64 y.2] 115)).alloc (.cells #[.int .i64 0,.int .i64 0,.bool false,.slice none 0 0,.slice none 0 0] 75):=⟨_,rfl⟩
 have hbb:Below w.heap.size w w1:=by rw [hw1]; exact ((Below.refl _ _).alloc (Nat.le_refl _) _).alloc (by simp) _
 have HB1:Hid (_∧_):=two_blocks w (.cells #[.int .i64 y.1,.int .i64 y.2] 115) (.cells #[.int .i64 0,.int .i64 0,.bool false,.slice none 0 0,.slice none 0 0] 75)
 rw [← hw1] at HB1
 have hsz:w1.heap.size=w.heap.size+2:=by rw [hw1]; simp
 have HGB:L≤w.heap.size∧w.heap.size+1<w1.heap.size:=⟨hLw,by omega⟩
 have HLB:∀ W,Below w.heap.size w1 W→L≤W.heap.size:=fun W hW=>by have:=hW.size; omega
 have HBB:w.heap.size≤w1.heap.size:=hbb.size
 have HW:Hid (_=_):=hw1
 clear hw1
 go_enter Tryz.func109,Tryz.ntmps109
 go_upto_region 1 with fail
 rw [← HW.out]
 clear HW
 have stb:=mapitemr_stb y L w1.heap.size w.heap.size (w.heap.size)
 refine wp_region_ri (mapitemr y L w1.heap.size w.heap.size (w.heap.size)) [3,4,5,6,7,8,9,10] (w.heap.size) (fun a0=>a0.tmps.size=11∧aT a0 1=.pointer (some ⟨w.heap.size,0,none⟩)∧aT a0 2=.pointer (some ⟨(w.heap.size+1),0,none⟩)) (by kernel_rfl) rfl (by kernel_rfl) rfl ⟨rfl,rfl,rfl⟩ stb ?_ ?_ ?_
 ·exact vt2 (m:=9) (HB1.out.1) (HB1.out.2)
 ·rintro a0 ⟨hz,g1,g2⟩
  refine StepsRI.cons ?_ (StepsRI.cons ?_ (StepsRI.cons ?_ (StepsRI.cons ?_ (StepsRI.cons ?_ (StepsRI.cons ?_ (StepsRI.cons ?_ (StepsRI.cons ?_ (StepsRI.cons ?_ (StepsRI.nil)))))))))
  all_goals intro lQ b W hI hUN hED KQ hKQ
  ·exact opw_field 115 1 0 rfl _ ((hI.fr.same 1 (by decide)).trans g1) _ (by kernel_rfl) (hKQ.out _ _ (hI.pu 0 3 hz hUN HBB stb (Below.refl _ _) rfl))
  ·have f:=hI.ge 0 hED
   have hg:=(hI.vo 9)
   have hc:W.cell? ⟨w.heap.size,0,none⟩=some (.int .i64 y.1):=qk hg rfl
   exact opw_load1 2 3 rfl _ f _ (by simp [Instr.loadAt,go_sem,hc]) (hKQ.out _ _ (hI.pu 1 4 hz hUN HBB stb (Below.refl _ _) rfl))
  ·have f0:aT b 4=.int .i64 y.1:=hI.ge 1 hED
   refine opw_c1 101 4 Tryz.func101 f0 ?_
   refine (numberItem_R y.1 L W hy1).mono ?_
   rintro r W2 ⟨⟨a1,n1,c1,k1,m1,e1,rfl,hzI⟩,hb⟩
   exact ⟨_,rfl,hKQ.out _ _ (hI.pu 2 5 hz hUN HBB stb hb ⟨a1,n1,c1,k1,m1,e1,rfl,((hzI.mono hI.bel.size).le (by decide)),HGB⟩)⟩
  ·exact opw_field 115 1 1 rfl _ ((hI.fr.same 1 (by decide)).trans g1) _ (by kernel_rfl) (hKQ.out _ _ (hI.pu 3 6 hz hUN HBB stb (Below.refl _ _) rfl))
  ·have f:=hI.ge 3 hED
   have hg:=(hI.vo 9)
   have hc:W.cell? ⟨w.heap.size,1,none⟩=some (.int .i64 y.2):=qk hg rfl
   exact opw_load1 2 6 rfl _ f _ (by simp [Instr.loadAt,go_sem,hc]) (hKQ.out _ _ (hI.pu 4 7 hz hUN HBB stb (Below.refl _ _) rfl))
  ·have f0:aT b 7=.int .i64 y.2:=hI.ge 4 hED
   refine opw_c1 101 7 Tryz.func101 f0 ?_
   refine (numberItem_R y.2 L W hy2).mono ?_
   rintro r W2 ⟨⟨a2,n2,c2,k2,m2,e2,rfl,hzI⟩,hb⟩
   exact ⟨_,rfl,hKQ.out _ _ (hI.pu 5 8 hz hUN HBB stb hb ⟨a2,n2,c2,k2,m2,e2,rfl,((hzI.mono hI.bel.size).le (by decide)),HGB⟩)⟩
  ·obtain ⟨a1,n1,c1,k1,m1,e1,f1,o1,_⟩:=hI.ge 2 hED
   replace f1:aT b 5=_:=f1
   obtain ⟨a2,n2,c2,k2,m2,e2,f2,o2,_⟩:=hI.ge 5 hED
   replace f2:aT b 8=_:=f2
   refine opw_buildSliceT _ 2 _ rfl #[(0,.agg #[.int .i64 (numI y.1).cls,.int .i64 (numI y.1).tag,.bool (numI y.1).cons,.slice a1 n1 c1,.slice k1 m1 e1]),(1,.agg #[.int .i64 (numI y.2).cls,.int .i64 (numI y.2).tag,.bool (numI y.2).cons,.slice a2 n2 c2,.slice k2 m2 e2])] (by simp [ev,f1,f2]) (.slice (some ⟨W.heap.size,0,none⟩) 2 2) (W.alloc (.cells #[.int .i64 (numI y.1).cls,.int .i64 (numI y.1).tag,.bool (numI y.1).cons,.slice a1 n1 c1,.slice k1 m1 e1,.int .i64 (numI y.2).cls,.int .i64 (numI y.2).tag,.bool (numI y.2).cons,.slice a2 n2 c2,.slice k2 m2 e2] 75)) (by kernel_rfl) ?_
   exact hKQ.out _ _ (hI.pu 6 9 hz hUN HBB stb ((Below.refl _ _).alloc (Nat.le_refl _) _) ⟨W.heap.size,rfl,kidZ_n2 hI.bel.size o1 o2,HGB⟩)
  ·obtain ⟨gr,f0,o0,_⟩:=hI.ge 6 hED
   replace f0:aT b 9=_:=f0
   refine opw_c1 152 9 Tryz.func152 f0 ?_
   refine (structItem_R o0 rfl).mono ?_
   rintro r W2 ⟨⟨a0,n0,c0,k0,m0,e0,rfl,hzI⟩,hb⟩
   exact ⟨_,rfl,hKQ.out _ _ (hI.pu 7 10 hz hUN HBB stb hb ⟨a0,n0,c0,k0,m0,e0,rfl,hzI,HGB⟩)⟩
  ·have hgb:=(hI.vot1 10 8 (od rfl) (od rfl) hUN rfl)
   have fb:=((hI.fr.same 2 (by decide)).trans g2)
   have f:=hI.ge 7 hED
   obtain ⟨a0,n0,c0,k0,m0,e0,f,o_0,o_1⟩:=f
   refine wp_store_row 75 _ _ rfl ((w.heap.size+1)) _ fb f 75 _ hgb (by kernel_rfl) rfl (by simp [Value.oneCell']) ?_
   have ht:=setRow_touch W ((w.heap.size+1)) #[.int .i64 (mapI y).cls,.int .i64 (mapI y).tag,.bool (mapI y).cons,.slice a0 n0 c0,.slice k0 m0 e0]
   exact hKQ.out _ _ (hI.store 8 (fun j hj=>by cases hj) (hI.bel.trans (ht.below (by first | exact HGE2 | omega) (Nat.le_trans HBB hI.bel.size))) (mapitemr_st8 y L w1.heap.size w.heap.size (w.heap.size) hgb ht) ⟨a0,n0,c0,k0,m0,e0,(setRow_heap W ((w.heap.size+1)) _ _ _ _ hgb),o_0.touched ht (by omega),o_1⟩)
 ·intro b W hf hb F
  clear stb
  obtain ⟨a0,n0,c0,k0,m0,e0,hbx,hz,_⟩:=F 8 (od rfl) rfl
  rw [hf.eq]
  simp only [puts,Act.put,List.setIfInBounds_toArray,List.set_cons_zero,List.set_cons_succ]
  clear hf F
  generalize aT b=AT
  clear b
  go_wp2
  try simp only [Exit.inBlock,Exit.then]
  exact bodyPost_ret (results_it rfl _ (w.heap.size+1) rfl _ _ _ _ _ _ hbx) rfl ⟨⟨a0,n0,c0,k0,m0,e0,rfl,hz.mono hbb.size⟩,hbb.trans hb⟩
theorem Map_next (xs:List (Int × Int))(k:Nat)(h:k<xs.length):(xs.take (k+1)).map mapI=(xs.take k).map mapI++[mapI (xs.getD k (0,0))]:=by
 rw [List.take_add_one,List.map_append]
 simp [h]
theorem eachMap_R (a:Option Addr)(n c:Nat)(xs:List (Int × Int))(L:Nat)(w:World)(hLw:L≤w.heap.size)(h:Pms w a n xs)(hw:∀ k,k<n→W64 (xs.getD k (0,0)).1∧W64 (xs.getD k (0,0)).2)(hn:n≤1000) :
  Calls Tryz.prog 160 #[.slice a n c,.func (Fn.func 109) #[] #[]] w fun e w'=>∃ ao co,e=.returned (.slice ao n co)∧OwnItZ 2 L w.heap.size w' ao n co (xs.map mapI)∧Below w.heap.size w w':=by
 obtain ⟨i0,hi,hz0,hz1,hz2⟩:=info_parts Tryz.infoIt
 have H0:Hid (Pms w a n xs):=h
 have HPw:Hid (∀ k,k<n→W64 (xs.getD k (0,0)).1∧W64 (xs.getD k (0,0)).2):=hw
 have HLX:Hid (xs.length=n):=h.len
 clear h hw
 go_enter Tryz.func160,Tryz.ntmps160
 go_wp2
 go_loopw [5,10] (fun o i wr=>∃ (k:Nat) (ao:Option Addr) (cc:Nat),k≤n∧i=.int .i64 k∧o=.slice ao k cc∧Hid (OwnItZ 2 L w.heap.size wr ao k cc ((xs.take k).map mapI))∧Below w.heap.size w wr) (fun _ i _=>n - (intOf i).toNat)
 case atStart=>exact ⟨0,none,0,Nat.zero_le _,rfl,rfl,ownItZ_none _ _ _ _,Below.refl _ _⟩
 case round =>
  obtain ⟨k,ao,cc,hk,rfl,rfl,HO,hbr⟩:=hrel
  have hws:=hbr.size
  by_cases hlt:k<n
  ·obtain ⟨b,off,rfl,hlb,e0,e1⟩:=H0.out.get k hlt
   obtain ⟨y,hy⟩:∃ y,y=xs.getD k (0,0):=⟨_,rfl⟩
   rw [← hy] at e0 e1
   have HYW:Hid (W64 y.1∧W64 y.2):=by show _∧_; rw [hy]; exact HPw.out k hlt
   obtain ⟨z,hz⟩:∃ z,z=mapI y:=⟨_,rfl⟩
   have HXK:Hid ((xs.take (k+1)).map mapI=(xs.take k).map mapI++[z]):=by show _=_; rw [hz,hy]; exact Map_next xs k (by rw [HLX.out]; exact hlt)
   have c0:=(hbr.cell (p:=⟨b,off+k * 2,none⟩) hlb).trans e0
   have c1:=(hbr.cell (p:=⟨b,off+k * 2+1,none⟩) hlb).trans e1
   clear e0 e1
   have hkni:(k:Int)<(n:Int):=by omega
   have hbw:b<wr.heap.size:=by omega
   have hbz:Below wr.heap.size wr (wr.alloc (.cells #[.int .i64 y.1,.int .i64 y.2] 115)):=(Below.refl _ _).alloc (Nat.le_refl _) _
   have hbz2:Below w.heap.size w (wr.alloc (.cells #[.int .i64 y.1,.int .i64 y.2] 115)):=hbr.trans (hbz.mono hws)
   have HCON:Hid (Calls Tryz.prog 109 #[.agg #[.int .i64 y.1,.int .i64 y.2]] (wr.alloc (.cells #[.int .i64 y.1,.int .i64 y.2] 115)) fun e w'=>ItR L (wr.alloc (.cells #[.int .i64 y.1,.int .i64 y.2] 115)).heap.size 2 z e w'∧Below (wr.alloc (.cells #[.int .i64 y.1,.int .i64 y.2] 115)).heap.size (wr.alloc (.cells #[.int .i64 y.1,.int .i64 y.2] 115)) w'):=by rw [hz]; exact mapItem_R y L _ (by have:=hbz.size; omega) HYW.out.1 HYW.out.2
   clear hy hz
   go_wp2_with fail
   refine HCON.out.mono ?_
   rintro e w2 ⟨⟨ab,nb,cb,ak,nk,ck,rfl,hit⟩,hb2⟩
   have hb2r:Below wr.heap.size wr w2:=keepT hbz hb2
   have B2:Below w.heap.size w w2:=hbr.trans (hb2r.mono hws)
   have hal:Below w2.heap.size w2 (w2.alloc (.cells #[.int .i64 z.cls,.int .i64 z.tag,.bool z.cons,.slice ab nb cb,.slice ak nk ck] 75)):=(Below.refl _ _).alloc (Nat.le_refl _) _
   have B6:Below w.heap.size w (w2.alloc (.cells #[.int .i64 z.cls,.int .i64 z.tag,.bool z.cons,.slice ab nb cb,.slice ak nk ck] 75)):=B2.trans (hal.mono B2.size)
   have hs6:(w2.alloc (.cells #[.int .i64 z.cls,.int .i64 z.tag,.bool z.cons,.slice ab nb cb,.slice ak nk ck] 75)).heap.size=w2.heap.size+1:=by simp
   have hs2:=hb2r.size
   have hsz1:=hbz.size
   have HQ3:Hid (OwnItZ 2 L w.heap.size (w2.alloc (.cells #[.int .i64 z.cls,.int .i64 z.tag,.bool z.cons,.slice ab nb cb,.slice ak nk ck] 75)) ao k cc ((xs.take k).map mapI)):=(HO.out.kept hb2r).kept hal
   obtain ⟨vs,hrow⟩:=HQ3.out.row
   have HROW:Hid (_):=hrow
   have hown:∀ b,(Value.slice ao k cc).ownBlock=some b→w.heap.size≤b∧b<wr.heap.size:=fun b hb=>by obtain ⟨vs0,hv0⟩:=HO.out.row; exact ⟨HO.out.2 b hb,(hv0.lt b hb).2⟩
   have HAPP:Hid (∀ g7 c7 w7,w7.ownsRow 0 75 5 (.slice (some ⟨g7,0,none⟩) (k+1) c7) (k+1) (vs++itc z ab nb cb ak nk ck)→(w2.alloc (.cells #[.int .i64 z.cls,.int .i64 z.tag,.bool z.cons,.slice ab nb cb,.slice ak nk ck] 75)).grownBy w7 (Value.slice ao k cc).ownBlock→((Value.slice ao k cc).ownBlock=some g7∨g7=w2.heap.size+1)→OwnItZ 2 L w.heap.size w7 (some ⟨g7,0,none⟩) (k+1) c7 ((xs.take (k+1)).map mapI)∧Below w.heap.size w w7):=by
    intro g7 c7 w7 hv7 hg7 hl7
    have hit2:=hit.kept hal
    rw [HXK.out]
    refine ⟨HQ3.out.appended hit2.it (fun b hb=>⟨by have:=hb.1; omega,hb.2,fun e=>by have:=hown b e; have:=hb.1; omega⟩) (by omega) HROW.out hv7 hg7 (by rw [hs6]; exact hl7) B6.size,B6.grown hg7 (by have:=B6.size; omega) (fun kx hx=>HQ3.out.2 kx hx)⟩
   clear c0 c1 hrow HO hb2 hb2r B2 hal hbz hbz2 hit HCON
   go_wp2_with (at_builtin; refine wpList_append_lies _ rfl (.tmp 14) (.tmp 18) 73 rfl 0 75 i0 _ 5 72 Tryz.underlying73 hi hz0 hz1 hz2 rfl (by decide) _ k vs rfl HROW.out ⟨w2.heap.size,0,none⟩ 1 1 [.int .i64 z.cls,.int .i64 z.tag,.bool z.cons,.slice ab nb cb,.slice ak nk ck] rfl rfl (World.news_of_block (heap_alloc_new w2 (.cells #[.int .i64 z.cls,.int .i64 z.tag,.bool z.cons,.slice ab nb cb,.slice ak nk ck] 75))) (by intro u hu; simp only [List.mem_cons,List.not_mem_nil,or_false] at hu; rcases hu with rfl | rfl | rfl | rfl | rfl <;> rfl) (by decide) (by unfold maxLen; omega) (by omega) (Nat.zero_le _) (w2.heap.size+1) (by simp) ?_; intro g7 c7 w7 hv7 hg7 hl7 hlt7; have HN7:=HAPP.out g7 c7 w7 hv7 hg7 hl7; have HO7:Hid (_):=HN7.1; have B7:=HN7.2; clear hv7 hg7 hl7 hlt7 HN7 HAPP HQ3 HROW)
   go_roundw
   case rel=>exact ⟨k+1,_,c7,by omega,by go_num,rfl,HO7,B7⟩
   case measure=>simp [intOf]; omega
  ·obtain rfl:k=n:=by omega
   have HX:Hid (xs.take k=xs):=by show _=_; rw [List.take_of_length_le (by rw [HLX.out]; exact Nat.le_refl _)]
   go_wp2
   go_ret
   refine ⟨ao,cc,rfl,?_,hbr⟩
   have:=HO.out
   rw [HX.out] at this
   exact this
theorem listItemMap_R (a:Option Addr)(n c:Nat)(xs:List (Int × Int))(L:Nat)(w:World)(hLw:L≤w.heap.size)(h:Pms w a n xs)(hw:∀ k,k<n→W64 (xs.getD k (0,0)).1∧W64 (xs.getD k (0,0)).2)(hn:n≤1000) :
  Calls Tryz.prog 108 #[.slice a n c,.func (Fn.func 109) #[] #[]] w fun e w'=>ItR L w.heap.size 3 (lstI (xs.map mapI)) e w'∧Below w.heap.size w w':=by
 have hbx:=box5_below w
 have hsz:=box5_size w
 have HB5:Hid (_=_):=box5_new w
 have HE:Hid (_):=eachMap_R a n c xs L (box5 w) (by omega) (h.kept hbx) hw hn
 clear h hw
 go_enter Tryz.func108,Tryz.ntmps108
 go_wp2_with fail
 refine Calls.mono HE.out ?_
 rintro e w2 ⟨ao,co,rfl,ho,hb2⟩
 have HK:Hid (KidsI 3 (fun b=>(b<L∨(box5 w).heap.size≤b)∧b<w2.heap.size) w2 ao n (xs.map mapI)):=ho.kids
 have h5:=below_kept HB5.out hb2
 obtain ⟨_,q0,q1,q2,q3,q4,q5,q6,q7,q8,q9⟩:=Box5.of h5
 have H5:Hid (_=_):=h5
 have B2:Below w.heap.size w w2:=keepT hbx hb2
 have hs2:=hb2.size
 clear ho h5 hb2 HE
 go_wp2_with fail
 try simp only [Exit.inBlock,Exit.then]
 have T:=put5_touch w2 w.heap.size (.int .i64 0) (.int .i64 17) (.bool true) (.slice none 0 0) (.slice ao n co)
 have hZ:ListZ L (w.heap.size+1) 3 w2 ao n (xs.map mapI):=⟨HK.out.mono (fun b hb=>⟨by have:=hb.1; omega,hb.2⟩)⟩
 exact bodyPost_ret (results_it rfl _ w.heap.size rfl _ _ _ _ _ _ (put5_heap H5.out _ _ _ _ _)) rfl ⟨⟨_,_,_,_,_,_,rfl,(hZ.itz (co:=co)).put hLw (by omega) _ _ _ _ _⟩,B2.trans (T.below (Nat.le_refl _) B2.size)⟩
theorem Num_next (xs:List Int)(k:Nat)(h:k<xs.length):(xs.take (k+1)).map numI=(xs.take k).map numI++[numI (xs.getD k 0)]:=by
 rw [List.take_add_one,List.map_append]
 simp [h]
theorem eachNum_R (a:Option Addr)(n c:Nat)(xs:List Int)(L:Nat)(w:World)(hLw:L≤w.heap.size)(h:Row64 w a n xs)(hw:∀ k,k<n→W64 (xs.getD k 0))(hn:n≤1000) :
  Calls Tryz.prog 159 #[.slice a n c,.func (Fn.func 101) #[] #[]] w fun e w'=>∃ ao co,e=.returned (.slice ao n co)∧OwnItZ 1 L w.heap.size w' ao n co (xs.map numI)∧Below w.heap.size w w':=by
 obtain ⟨i0,hi,hz0,hz1,hz2⟩:=info_parts Tryz.infoIt
 have H0:Hid (Row64 w a n xs):=h
 have HPw:Hid (∀ k,k<n→W64 (xs.getD k 0)):=hw
 have HLX:Hid (xs.length=n):=h.len
 clear h hw
 go_enter Tryz.func159,Tryz.ntmps159
 go_wp2
 go_loopw [5,10] (fun o i wr=>∃ (k:Nat) (ao:Option Addr) (cc:Nat),k≤n∧i=.int .i64 k∧o=.slice ao k cc∧Hid (OwnItZ 1 L w.heap.size wr ao k cc ((xs.take k).map numI))∧Below w.heap.size w wr) (fun _ i _=>n - (intOf i).toNat)
 case atStart=>exact ⟨0,none,0,Nat.zero_le _,rfl,rfl,ownItZ_none _ _ _ _,Below.refl _ _⟩
 case round =>
  obtain ⟨k,ao,cc,hk,rfl,rfl,HO,hbr⟩:=hrel
  have hws:=hbr.size
  by_cases hlt:k<n
  ·obtain ⟨b,off,rfl,hlb,e0⟩:=H0.out.get k hlt
   obtain ⟨y,hy⟩:∃ y,y=xs.getD k 0:=⟨_,rfl⟩
   rw [← hy] at e0
   have HYW:Hid (W64 y):=by show W64 _; rw [hy]; exact HPw.out k hlt
   obtain ⟨z,hz⟩:∃ z,z=numI y:=⟨_,rfl⟩
   have HXK:Hid ((xs.take (k+1)).map numI=(xs.take k).map numI++[z]):=by show _=_; rw [hz,hy]; exact Num_next xs k (by rw [HLX.out]; exact hlt)
   have c0:=(hbr.cell (p:=⟨b,off+k,none⟩) hlb).trans e0
   clear e0
   have hkni:(k:Int)<(n:Int):=by omega
   have hbw:b<wr.heap.size:=by omega
   have hbz:Below wr.heap.size wr wr:=Below.refl _ _
   have hbz2:Below w.heap.size w wr:=hbr.trans (hbz.mono hws)
   have HCON:Hid (Calls Tryz.prog 101 #[.int .i64 y] wr fun e w'=>ItR L wr.heap.size 1 z e w'∧Below wr.heap.size wr w'):=by rw [hz]; exact numberItem_R y L _ HYW.out
   clear hy hz
   go_wp2_with fail
   refine HCON.out.mono ?_
   rintro e w2 ⟨⟨ab,nb,cb,ak,nk,ck,rfl,hit⟩,hb2⟩
   have hb2r:Below wr.heap.size wr w2:=keepT hbz hb2
   have B2:Below w.heap.size w w2:=hbr.trans (hb2r.mono hws)
   have hal:Below w2.heap.size w2 (w2.alloc (.cells #[.int .i64 z.cls,.int .i64 z.tag,.bool z.cons,.slice ab nb cb,.slice ak nk ck] 75)):=(Below.refl _ _).alloc (Nat.le_refl _) _
   have B6:Below w.heap.size w (w2.alloc (.cells #[.int .i64 z.cls,.int .i64 z.tag,.bool z.cons,.slice ab nb cb,.slice ak nk ck] 75)):=B2.trans (hal.mono B2.size)
   have hs6:(w2.alloc (.cells #[.int .i64 z.cls,.int .i64 z.tag,.bool z.cons,.slice ab nb cb,.slice ak nk ck] 75)).heap.size=w2.heap.size+1:=by simp
   have hs2:=hb2r.size
   have hsz1:=hbz.size
   have HQ3:Hid (OwnItZ 1 L w.heap.size (w2.alloc (.cells #[.int .i64 z.cls,.int .i64 z.tag,.bool z.cons,.slice ab nb cb,.slice ak nk ck] 75)) ao k cc ((xs.take k).map numI)):=(HO.out.kept hb2r).kept hal
   obtain ⟨vs,hrow⟩:=HQ3.out.row
   have HROW:Hid (_):=hrow
   have hown:∀ b,(Value.slice ao k cc).ownBlock=some b→w.heap.size≤b∧b<wr.heap.size:=fun b hb=>by obtain ⟨vs0,hv0⟩:=HO.out.row; exact ⟨HO.out.2 b hb,(hv0.lt b hb).2⟩
   have HAPP:Hid (∀ g7 c7 w7,w7.ownsRow 0 75 5 (.slice (some ⟨g7,0,none⟩) (k+1) c7) (k+1) (vs++itc z ab nb cb ak nk ck)→(w2.alloc (.cells #[.int .i64 z.cls,.int .i64 z.tag,.bool z.cons,.slice ab nb cb,.slice ak nk ck] 75)).grownBy w7 (Value.slice ao k cc).ownBlock→((Value.slice ao k cc).ownBlock=some g7∨g7=w2.heap.size+1)→OwnItZ 1 L w.heap.size w7 (some ⟨g7,0,none⟩) (k+1) c7 ((xs.take (k+1)).map numI)∧Below w.heap.size w w7):=by
    intro g7 c7 w7 hv7 hg7 hl7
    have hit2:=hit.kept hal
    rw [HXK.out]
    refine ⟨HQ3.out.appended hit2.it (fun b hb=>⟨by have:=hb.1; omega,hb.2,fun e=>by have:=hown b e; have:=hb.1; omega⟩) (by omega) HROW.out hv7 hg7 (by rw [hs6]; exact hl7) B6.size,B6.grown hg7 (by have:=B6.size; omega) (fun kx hx=>HQ3.out.2 kx hx)⟩
   clear c0 hrow HO hb2 hb2r B2 hal hbz hbz2 hit HCON
   go_wp2_with (at_builtin; refine wpList_append_lies _ rfl (.tmp 14) (.tmp 18) 73 rfl 0 75 i0 _ 5 72 Tryz.underlying73 hi hz0 hz1 hz2 rfl (by decide) _ k vs rfl HROW.out ⟨w2.heap.size,0,none⟩ 1 1 [.int .i64 z.cls,.int .i64 z.tag,.bool z.cons,.slice ab nb cb,.slice ak nk ck] rfl rfl (World.news_of_block (heap_alloc_new w2 (.cells #[.int .i64 z.cls,.int .i64 z.tag,.bool z.cons,.slice ab nb cb,.slice ak nk ck] 75))) (by intro u hu; simp only [List.mem_cons,List.not_mem_nil,or_false] at hu; rcases hu with rfl | rfl | rfl | rfl | rfl <;> rfl) (by decide) (by unfold maxLen; omega) (by omega) (Nat.zero_le _) (w2.heap.size+1) (by simp) ?_; intro g7 c7 w7 hv7 hg7 hl7 hlt7; have HN7:=HAPP.out g7 c7 w7 hv7 hg7 hl7; have HO7:Hid (_):=HN7.1; have B7:=HN7.2; clear hv7 hg7 hl7 hlt7 HN7 HAPP HQ3 HROW)
   go_roundw
   case rel=>exact ⟨k+1,_,c7,by omega,by go_num,rfl,HO7,B7⟩
   case measure=>simp [intOf]; omega
  ·obtain rfl:k=n:=by omega
   have HX:Hid (xs.take k=xs):=by show _=_; rw [List.take_of_length_le (by rw [HLX.out]; exact Nat.le_refl _)]
   go_wp2
   go_ret
   refine ⟨ao,cc,rfl,?_,hbr⟩
   have:=HO.out
   rw [HX.out] at this
   exact this
theorem listItemNum_R (a:Option Addr)(n c:Nat)(xs:List Int)(L:Nat)(w:World)(hLw:L≤w.heap.size)(h:Row64 w a n xs)(hw:∀ k,k<n→W64 (xs.getD k 0))(hn:n≤1000) :
  Calls Tryz.prog 107 #[.slice a n c,.func (Fn.func 101) #[] #[]] w fun e w'=>ItR L w.heap.size 2 (lstI (xs.map numI)) e w'∧Below w.heap.size w w':=by
 have hbx:=box5_below w
 have hsz:=box5_size w
 have HB5:Hid (_=_):=box5_new w
 have HE:Hid (_):=eachNum_R a n c xs L (box5 w) (by omega) (h.kept hbx) hw hn
 clear h hw
 go_enter Tryz.func107,Tryz.ntmps107
 go_wp2_with fail
 refine Calls.mono HE.out ?_
 rintro e w2 ⟨ao,co,rfl,ho,hb2⟩
 have HK:Hid (KidsI 2 (fun b=>(b<L∨(box5 w).heap.size≤b)∧b<w2.heap.size) w2 ao n (xs.map numI)):=ho.kids
 have h5:=below_kept HB5.out hb2
 obtain ⟨_,q0,q1,q2,q3,q4,q5,q6,q7,q8,q9⟩:=Box5.of h5
 have H5:Hid (_=_):=h5
 have B2:Below w.heap.size w w2:=keepT hbx hb2
 have hs2:=hb2.size
 clear ho h5 hb2 HE
 go_wp2_with fail
 try simp only [Exit.inBlock,Exit.then]
 have T:=put5_touch w2 w.heap.size (.int .i64 0) (.int .i64 17) (.bool true) (.slice none 0 0) (.slice ao n co)
 have hZ:ListZ L (w.heap.size+1) 2 w2 ao n (xs.map numI):=⟨HK.out.mono (fun b hb=>⟨by have:=hb.1; omega,hb.2⟩)⟩
 exact bodyPost_ret (results_it rfl _ w.heap.size rfl _ _ _ _ _ _ (put5_heap H5.out _ _ _ _ _)) rfl ⟨⟨_,_,_,_,_,_,rfl,(hZ.itz (co:=co)).put hLw (by omega) _ _ _ _ _⟩,B2.trans (T.below (Nat.le_refl _) B2.size)⟩
def pubitemr (y:Int × Int × Int)(L R G B:Nat):RSpec where
 m:=12
 n:=14
 slots:=[3,4,5,6,7,8,9,10,11,12,13,100011,100012,100013]
 kills:=[[],[],[],[],[],[],[],[],[],[],[],[],[],[11]]
 pres:=[[],[],[],[],[],[],[],[],[],[],[],[],[],[]]
 fact:=fun k v w=>match k with
  | 0=>v=.pointer (some ⟨G,0,none⟩)
  | 1=>v=.int .i64 y.1
  | 2=>∃ a1 n1 c1 k1 m1 e1,v=.agg #[.int .i64 (numI y.1).cls,.int .i64 (numI y.1).tag,.bool (numI y.1).cons,.slice a1 n1 c1,.slice k1 m1 e1]∧ItZ L R 1 w (numI y.1) a1 n1 c1 k1 m1 e1∧L≤G∧G+1<R
  | 3=>v=.pointer (some ⟨G,1,none⟩)
  | 4=>v=.int .u64 y.2.1
  | 5=>∃ a2 n2 c2 k2 m2 e2,v=.agg #[.int .i64 (bytI (eightI y.2.1)).cls,.int .i64 (bytI (eightI y.2.1)).tag,.bool (bytI (eightI y.2.1)).cons,.slice a2 n2 c2,.slice k2 m2 e2]∧ItZ L R 1 w (bytI (eightI y.2.1)) a2 n2 c2 k2 m2 e2∧L≤G∧G+1<R
  | 6=>v=.pointer (some ⟨G,2,none⟩)
  | 7=>v=.int .i64 y.2.2
  | 8=>∃ a3 n3 c3 k3 m3 e3,v=.agg #[.int .i64 (numI y.2.2).cls,.int .i64 (numI y.2.2).tag,.bool (numI y.2.2).cons,.slice a3 n3 c3,.slice k3 m3 e3]∧ItZ L R 1 w (numI y.2.2) a3 n3 c3 k3 m3 e3∧L≤G∧G+1<R
  | 9=>∃ gr,v=.slice (some ⟨gr,0,none⟩) 3 3∧KidZ L R w gr 2 [numI y.1,bytI (eightI y.2.1),numI y.2.2]∧L≤G∧G+1<R
  | 10=>∃ a0 n0 c0 k0 m0 e0,v=.agg #[.int .i64 (kyI y).cls,.int .i64 (kyI y).tag,.bool (kyI y).cons,.slice a0 n0 c0,.slice k0 m0 e0]∧ItZ L R 2 w (kyI y) a0 n0 c0 k0 m0 e0∧L≤G∧G+1<R
  | 11=>∃ a0 n0 c0 k0 m0 e0,w.heap[(G+1)]? = some (.cells #[.int .i64 (kyI y).cls,.int .i64 (kyI y).tag,.bool (kyI y).cons,.slice a0 n0 c0,.slice k0 m0 e0] 75 (0,0))∧ItZ L R 2 w (kyI y) a0 n0 c0 k0 m0 e0∧L≤G∧G+1<R
  | 12=>w.heap[G]? = some (.cells #[.int .i64 y.1,.int .u64 y.2.1,.int .i64 y.2.2] 41 (0,0))
  | _=>w.heap[(G+1)]? = some (.cells #[.int .i64 0,.int .i64 0,.bool false,.slice none 0 0,.slice none 0 0] 75 (0,0))
theorem pubitemr_stb (y:Int × Int × Int)(L R G B:Nat)(k:Nat)(hk:k<14):StB ((pubitemr y L R G (B)).fact k):=by
 match k,hk with
 | 0,_=>exact fun _ _ _ h _=>h
 | 1,_=>exact fun _ _ _ h _=>h
 | 2,_=>exact fun _ _ _ ⟨a1,n1,c1,k1,m1,e1,hv,q_0,q_1⟩ hb=>⟨a1,n1,c1,k1,m1,e1,hv,q_0.kept hb,q_1⟩
 | 3,_=>exact fun _ _ _ h _=>h
 | 4,_=>exact fun _ _ _ h _=>h
 | 5,_=>exact fun _ _ _ ⟨a2,n2,c2,k2,m2,e2,hv,q_0,q_1⟩ hb=>⟨a2,n2,c2,k2,m2,e2,hv,q_0.kept hb,q_1⟩
 | 6,_=>exact fun _ _ _ h _=>h
 | 7,_=>exact fun _ _ _ h _=>h
 | 8,_=>exact fun _ _ _ ⟨a3,n3,c3,k3,m3,e3,hv,q_0,q_1⟩ hb=>⟨a3,n3,c3,k3,m3,e3,hv,q_0.kept hb,q_1⟩
 | 9,_=>exact fun _ _ _ ⟨gr,hv,q_0,q_1⟩ hb=>⟨gr,hv,q_0.kept hb,q_1⟩
 | 10,_=>exact fun _ _ _ ⟨a0,n0,c0,k0,m0,e0,hv,q_0,q_1⟩ hb=>⟨a0,n0,c0,k0,m0,e0,hv,q_0.kept hb,q_1⟩
 | 11,_=>exact fun _ _ _ ⟨a0,n0,c0,k0,m0,e0,q_0,q_1,q_2⟩ hb=>⟨a0,n0,c0,k0,m0,e0,below_kept q_0 hb,q_1.kept hb,q_2⟩
 | 12,_=>exact fun _ _ _ q_0 hb=>below_kept q_0 hb
 | 13,_=>exact fun _ _ _ q_0 hb=>below_kept q_0 hb
 | k+14,hk=>omega
theorem pubitemr_st11 (y:Int × Int × Int)(L R G B:Nat){W W2:World}{cs:Array Value}{fr:Nat × Nat}(hg:W.heap[(G+1)]? = some (.cells cs 75 fr))(ht:Touch ((G+1)) ((G+1)+1) W W2)(k:Nat)(hk:k<14)(hne:k≠11)(hkill:11∉(pubitemr y L R G (B)).kill k)(v:Value)(hfact:(pubitemr y L R G (B)).fact k v W):(pubitemr y L R G (B)).fact k v W2:=by
 match k,hk,hne,hkill,hfact with
 | 0,_,_,_,hq=>exact hq
 | 1,_,_,_,hq=>exact hq
 | 2,_,_,_,⟨a1,n1,c1,k1,m1,e1,hv,q_0,q_1⟩=>exact ⟨a1,n1,c1,k1,m1,e1,hv,q_0.touched ht (by omega),q_1⟩
 | 3,_,_,_,hq=>exact hq
 | 4,_,_,_,hq=>exact hq
 | 5,_,_,_,⟨a2,n2,c2,k2,m2,e2,hv,q_0,q_1⟩=>exact ⟨a2,n2,c2,k2,m2,e2,hv,q_0.touched ht (by omega),q_1⟩
 | 6,_,_,_,hq=>exact hq
 | 7,_,_,_,hq=>exact hq
 | 8,_,_,_,⟨a3,n3,c3,k3,m3,e3,hv,q_0,q_1⟩=>exact ⟨a3,n3,c3,k3,m3,e3,hv,q_0.touched ht (by omega),q_1⟩
 | 9,_,_,_,⟨gr,hv,q_0,q_1⟩=>exact ⟨gr,hv,q_0.touched ht (by omega),q_1⟩
 | 10,_,_,_,⟨a0,n0,c0,k0,m0,e0,hv,q_0,q_1⟩=>exact ⟨a0,n0,c0,k0,m0,e0,hv,q_0.touched ht (by omega),q_1⟩
 | 11,_,hne,_,_=>exact absurd rfl hne
 | 12,_,_,_,q_0=>exact box_box q_0 hg (by decide) ht
 | 13,_,_,hkill,_=>exact absurd (List.Mem.head _) hkill
 | k+14,hk,_,_,_=>omega
theorem pubItem_R (y:Int × Int × Int)(L:Nat)(w:World)(hLw:L≤w.heap.size)(h1:W64 y.1)(hu:U64 y.2.1)(h3:W64 y.2.2) :
  Calls Tryz.prog 103 #[.agg #[.int .i64 y.1,.int .u64 y.2.1,.int .i64 y.2.2]] w fun e w'=>ItR L w.heap.size 2 (kyI y) e w'∧Below w.heap.size w w':=by
 obtain ⟨w1,hw1⟩:∃ w1,w1=(w.alloc (.cells #[.int .i64 y.1,.int .u64 y.2.1,.int .i64 y.2.2] 41)).alloc (.cells #[.int .i64 0,.int .i64 0,.bool false,.slice none 0 0,.slice none 0 0] 75):=⟨_,rfl⟩
 have hbb:Below w.heap.size w w1:=by rw [hw1]; exact ((Below.refl _ _).alloc (Nat.le_refl _) _).alloc (by simp) _
 have HB1:Hid (_∧_):=two_blocks w (.cells #[.int .i64 y.1,.int .u64 y.2.1,.int .i64 y.2.2] 41) (.cells #[.int .i64 0,.int .i64 0,.bool false,.slice none 0 0,.slice none 0 0] 75)
 rw [← hw1] at HB1
 have hsz:w1.heap.size=w.heap.size+2:=by rw [hw1]; simp
 have HGB:L≤w.heap.size∧w.heap.size+1<w1.heap.size:=⟨hLw,by omega⟩
 have HLB:∀ W,Below w.heap.size w1 W→L≤W.heap.size:=fun W hW=>by have:=hW.size; omega
 have HBB:w.heap.size≤w1.heap.size:=hbb.size
 have HW:Hid (_=_):=hw1
 clear hw1
 go_enter Tryz.func103,Tryz.ntmps103
 go_upto_region 1 with fail
 rw [← HW.out]
 clear HW
 have stb:=pubitemr_stb y L w1.heap.size w.heap.size (w.heap.size)
 refine wp_region_ri (pubitemr y L w1.heap.size w.heap.size (w.heap.size)) [3,4,5,6,7,8,9,10,11,12,13] (w.heap.size) (fun a0=>a0.tmps.size=14∧aT a0 1=.pointer (some ⟨w.heap.size,0,none⟩)∧aT a0 2=.pointer (some ⟨(w.heap.size+1),0,none⟩)) (by kernel_rfl) rfl (by kernel_rfl) rfl ⟨rfl,rfl,rfl⟩ stb ?_ ?_ ?_
 ·exact vt2 (m:=12) (HB1.out.1) (HB1.out.2)
 ·rintro a0 ⟨hz,g1,g2⟩
  refine StepsRI.cons ?_ (StepsRI.cons ?_ (StepsRI.cons ?_ (StepsRI.cons ?_ (StepsRI.cons ?_ (StepsRI.cons ?_ (StepsRI.cons ?_ (StepsRI.cons ?_ (StepsRI.cons ?_ (StepsRI.cons ?_ (StepsRI.cons ?_ (StepsRI.cons ?_ (StepsRI.nil))))))))))))
  all_goals intro lQ b W hI hUN hED KQ hKQ
  ·exact opw_field 41 1 0 rfl _ ((hI.fr.same 1 (by decide)).trans g1) _ (by kernel_rfl) (hKQ.out _ _ (hI.pu 0 3 hz hUN HBB stb (Below.refl _ _) rfl))
  ·have f:=hI.ge 0 hED
   have hg:=(hI.vo 12)
   have hc:W.cell? ⟨w.heap.size,0,none⟩=some (.int .i64 y.1):=qk hg rfl
   exact opw_load1 2 3 rfl _ f _ (by simp [Instr.loadAt,go_sem,hc]) (hKQ.out _ _ (hI.pu 1 4 hz hUN HBB stb (Below.refl _ _) rfl))
  ·have f0:aT b 4=.int .i64 y.1:=hI.ge 1 hED
   refine opw_c1 101 4 Tryz.func101 f0 ?_
   refine (numberItem_R y.1 L W h1).mono ?_
   rintro r W2 ⟨⟨a1,n1,c1,k1,m1,e1,rfl,hzI⟩,hb⟩
   exact ⟨_,rfl,hKQ.out _ _ (hI.pu 2 5 hz hUN HBB stb hb ⟨a1,n1,c1,k1,m1,e1,rfl,((hzI.mono hI.bel.size).le (by decide)),HGB⟩)⟩
  ·exact opw_field 41 1 1 rfl _ ((hI.fr.same 1 (by decide)).trans g1) _ (by kernel_rfl) (hKQ.out _ _ (hI.pu 3 6 hz hUN HBB stb (Below.refl _ _) rfl))
  ·have f:=hI.ge 3 hED
   have hg:=(hI.vo 12)
   have hc:W.cell? ⟨w.heap.size,1,none⟩=some (.int .u64 y.2.1):=qk hg rfl
   exact opw_load1 25 6 rfl _ f _ (by simp [Instr.loadAt,go_sem,hc]) (hKQ.out _ _ (hI.pu 4 7 hz hUN HBB stb (Below.refl _ _) rfl))
  ·have f0:aT b 7=.int .u64 y.2.1:=hI.ge 4 hED
   refine opw_c1 155 7 Tryz.func155 f0 ?_
   refine (digestItem_R y.2.1 L W hu).mono ?_
   rintro r W2 ⟨⟨a2,n2,c2,k2,m2,e2,rfl,hzI⟩,hb⟩
   exact ⟨_,rfl,hKQ.out _ _ (hI.pu 5 8 hz hUN HBB stb hb ⟨a2,n2,c2,k2,m2,e2,rfl,((hzI.mono hI.bel.size).le (by decide)),HGB⟩)⟩
  ·exact opw_field 41 1 2 rfl _ ((hI.fr.same 1 (by decide)).trans g1) _ (by kernel_rfl) (hKQ.out _ _ (hI.pu 6 9 hz hUN HBB stb (Below.refl _ _) rfl))
  ·have f:=hI.ge 6 hED
   have hg:=(hI.vo 12)
   have hc:W.cell? ⟨w.heap.size,2,none⟩=some (.int .i64 y.2.2):=qk hg rfl
   exact opw_load1 2 9 rfl _ f _ (by simp [Instr.loadAt,go_sem,hc]) (hKQ.out _ _ (hI.pu 7 10 hz hUN HBB stb (Below.refl _ _) rfl))
  ·have f0:aT b 10=.int .i64 y.2.2:=hI.ge 7 hED
   refine opw_c1 101 10 Tryz.func101 f0 ?_
   refine (numberItem_R y.2.2 L W h3).mono ?_
   rintro r W2 ⟨⟨a3,n3,c3,k3,m3,e3,rfl,hzI⟩,hb⟩
   exact ⟨_,rfl,hKQ.out _ _ (hI.pu 8 11 hz hUN HBB stb hb ⟨a3,n3,c3,k3,m3,e3,rfl,((hzI.mono hI.bel.size).le (by decide)),HGB⟩)⟩
  ·obtain ⟨a1,n1,c1,k1,m1,e1,f1,o1,_⟩:=hI.ge 2 hED
   replace f1:aT b 5=_:=f1
   obtain ⟨a2,n2,c2,k2,m2,e2,f2,o2,_⟩:=hI.ge 5 hED
   replace f2:aT b 8=_:=f2
   obtain ⟨a3,n3,c3,k3,m3,e3,f3,o3,_⟩:=hI.ge 8 hED
   replace f3:aT b 11=_:=f3
   refine opw_buildSliceT _ 3 _ rfl #[(0,.agg #[.int .i64 (numI y.1).cls,.int .i64 (numI y.1).tag,.bool (numI y.1).cons,.slice a1 n1 c1,.slice k1 m1 e1]),(1,.agg #[.int .i64 (bytI (eightI y.2.1)).cls,.int .i64 (bytI (eightI y.2.1)).tag,.bool (bytI (eightI y.2.1)).cons,.slice a2 n2 c2,.slice k2 m2 e2]),(2,.agg #[.int .i64 (numI y.2.2).cls,.int .i64 (numI y.2.2).tag,.bool (numI y.2.2).cons,.slice a3 n3 c3,.slice k3 m3 e3])] (by simp [ev,f1,f2,f3]) (.slice (some ⟨W.heap.size,0,none⟩) 3 3) (W.alloc (.cells #[.int .i64 (numI y.1).cls,.int .i64 (numI y.1).tag,.bool (numI y.1).cons,.slice a1 n1 c1,.slice k1 m1 e1,.int .i64 (bytI (eightI y.2.1)).cls,.int .i64 (bytI (eightI y.2.1)).tag,.bool (bytI (eightI y.2.1)).cons,.slice a2 n2 c2,.slice k2 m2 e2,.int .i64 (numI y.2.2).cls,.int .i64 (numI y.2.2).tag,.bool (numI y.2.2).cons,.slice a3 n3 c3,.slice k3 m3 e3] 75)) (by kernel_rfl) ?_
   exact hKQ.out _ _ (hI.pu 9 12 hz hUN HBB stb ((Below.refl _ _).alloc (Nat.le_refl _) _) ⟨W.heap.size,rfl,kidZ_n3 hI.bel.size o1 o2 o3,HGB⟩)
  ·obtain ⟨gr,f0,o0,_⟩:=hI.ge 9 hED
   replace f0:aT b 12=_:=f0
   refine opw_c1 152 12 Tryz.func152 f0 ?_
   refine (structItem_R o0 rfl).mono ?_
   rintro r W2 ⟨⟨a0,n0,c0,k0,m0,e0,rfl,hzI⟩,hb⟩
   exact ⟨_,rfl,hKQ.out _ _ (hI.pu 10 13 hz hUN HBB stb hb ⟨a0,n0,c0,k0,m0,e0,rfl,hzI,HGB⟩)⟩
  ·have hgb:=(hI.vot1 13 11 (od rfl) (od rfl) hUN rfl)
   have fb:=((hI.fr.same 2 (by decide)).trans g2)
   have f:=hI.ge 10 hED
   obtain ⟨a0,n0,c0,k0,m0,e0,f,o_0,o_1⟩:=f
   refine wp_store_row 75 _ _ rfl ((w.heap.size+1)) _ fb f 75 _ hgb (by kernel_rfl) rfl (by simp [Value.oneCell']) ?_
   have ht:=setRow_touch W ((w.heap.size+1)) #[.int .i64 (kyI y).cls,.int .i64 (kyI y).tag,.bool (kyI y).cons,.slice a0 n0 c0,.slice k0 m0 e0]
   exact hKQ.out _ _ (hI.store 11 (fun j hj=>by cases hj) (hI.bel.trans (ht.below (by first | exact HGE2 | omega) (Nat.le_trans HBB hI.bel.size))) (pubitemr_st11 y L w1.heap.size w.heap.size (w.heap.size) hgb ht) ⟨a0,n0,c0,k0,m0,e0,(setRow_heap W ((w.heap.size+1)) _ _ _ _ hgb),o_0.touched ht (by omega),o_1⟩)
 ·intro b W hf hb F
  clear stb
  obtain ⟨a0,n0,c0,k0,m0,e0,hbx,hz,_⟩:=F 11 (od rfl) rfl
  rw [hf.eq]
  simp only [puts,Act.put,List.setIfInBounds_toArray,List.set_cons_zero,List.set_cons_succ]
  clear hf F
  generalize aT b=AT
  clear b
  go_wp2
  try simp only [Exit.inBlock,Exit.then]
  exact bodyPost_ret (results_it rfl _ (w.heap.size+1) rfl _ _ _ _ _ _ hbx) rfl ⟨⟨a0,n0,c0,k0,m0,e0,rfl,hz.mono hbb.size⟩,hbb.trans hb⟩
end Go.Proofs.YtmdfbnlgfhjnoaaGreatDoor
