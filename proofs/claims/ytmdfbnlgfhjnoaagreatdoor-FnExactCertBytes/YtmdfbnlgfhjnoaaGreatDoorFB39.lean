import Derived.Test.YtmdfbnlgfhjnoaaGreatDoorFB32
import Derived.Test.YtmdfbnlgfhjnoaaGreatDoorFB10
import Derived.Test.YtmdfbnlgfhjnoaaGreatDoorFB38
import Derived.Test.YtmdfbnlgfhjnoaaGreatDoorFB29
import Derived.Test.YtmdfbnlgfhjnoaaGreatDoorFB37
set_option maxRecDepth 10000
set_option maxHeartbeats 8000000
set_option linter.unusedVariables false
namespace Go.Proofs.YtmdfbnlgfhjnoaaGreatDoor
open Go.RowKit Go.Sort
def partitemr (y:PT)(L R G B:Nat):RSpec where
 m:=9
 n:=11
 slots:=[3,4,5,6,7,8,9,10,100008,100009,100010]
 kills:=[[],[],[],[],[],[],[],[],[],[],[8]]
 pres:=[[],[],[],[],[],[],[],[],[],[],[]]
 fact:=fun k v w=>match k with
  | 0=>v=.pointer (some ⟨G,0,none⟩)
  | 1=>v=.int .i64 y.attr
  | 2=>∃ a1 n1 c1 k1 m1 e1,v=.agg #[.int .i64 (numI y.attr).cls,.int .i64 (numI y.attr).tag,.bool (numI y.attr).cons,.slice a1 n1 c1,.slice k1 m1 e1]∧ItZ L R 1 w (numI y.attr) a1 n1 c1 k1 m1 e1∧L≤G∧G+1<R
  | 3=>v=.pointer (some ⟨G,1,none⟩)
  | 4=>v=.string y.val
  | 5=>∃ a2 n2 c2 k2 m2 e2,v=.agg #[.int .i64 (bytI (bytesOf y.val)).cls,.int .i64 (bytI (bytesOf y.val)).tag,.bool (bytI (bytesOf y.val)).cons,.slice a2 n2 c2,.slice k2 m2 e2]∧ItZ L R 1 w (bytI (bytesOf y.val)) a2 n2 c2 k2 m2 e2∧L≤G∧G+1<R
  | 6=>∃ gr,v=.slice (some ⟨gr,0,none⟩) 2 2∧KidZ L R w gr 2 [numI y.attr,bytI (bytesOf y.val)]∧L≤G∧G+1<R
  | 7=>∃ a0 n0 c0 k0 m0 e0,v=.agg #[.int .i64 (parI y).cls,.int .i64 (parI y).tag,.bool (parI y).cons,.slice a0 n0 c0,.slice k0 m0 e0]∧ItZ L R 2 w (parI y) a0 n0 c0 k0 m0 e0∧L≤G∧G+1<R
  | 8=>∃ a0 n0 c0 k0 m0 e0,w.heap[(G+1)]? = some (.cells #[.int .i64 (parI y).cls,.int .i64 (parI y).tag,.bool (parI y).cons,.slice a0 n0 c0,.slice k0 m0 e0] 75 (0,0))∧ItZ L R 2 w (parI y) a0 n0 c0 k0 m0 e0∧L≤G∧G+1<R
  | 9=>w.heap[G]? = some (.cells #[.int .i64 y.attr,.string y.val] 172 (0,0))
  | _=>w.heap[(G+1)]? = some (.cells #[.int .i64 0,.int .i64 0,.bool false,.slice none 0 0,.slice none 0 0] 75 (0,0))
theorem partitemr_stb (y:PT)(L R G B:Nat)(k:Nat)(hk:k<11):StB ((partitemr y L R G (B)).fact k):=by
 match k,hk with
 | 0,_=>exact fun _ _ _ h _=>h
 | 1,_=>exact fun _ _ _ h _=>h
 | 2,_=>exact fun _ _ _ ⟨a1,n1,c1,k1,m1,e1,hv,q_0,q_1⟩ hb=>⟨a1,n1,c1,k1,m1,e1,hv,q_0.kept hb,q_1⟩
 | 3,_=>exact fun _ _ _ h _=>h
 | 4,_=>exact fun _ _ _ h _=>h
 | 5,_=>exact fun _ _ _ ⟨a2,n2,c2,k2,m2,e2,hv,q_0,q_1⟩ hb=>⟨a2,n2,c2,k2,m2,e2,hv,q_0.kept hb,q_1⟩
 | 6,_=>exact fun _ _ _ ⟨gr,hv,q_0,q_1⟩ hb=>⟨gr,hv,q_0.kept hb,q_1⟩
 | 7,_=>exact fun _ _ _ ⟨a0,n0,c0,k0,m0,e0,hv,q_0,q_1⟩ hb=>⟨a0,n0,c0,k0,m0,e0,hv,q_0.kept hb,q_1⟩
 | 8,_=>exact fun _ _ _ ⟨a0,n0,c0,k0,m0,e0,q_0,q_1,q_2⟩ hb=>⟨a0,n0,c0,k0,m0,e0,below_kept q_0 hb,q_1.kept hb,q_2⟩
 | 9,_=>exact fun _ _ _ q_0 hb=>below_kept q_0 hb
 | 10,_=>exact fun _ _ _ q_0 hb=>below_kept q_0 hb
 | k+11,hk=>omega
theorem partitemr_st8 (y:PT)(L R G B:Nat){W W2:World}{cs:Array Value}{fr:Nat × Nat}(hg:W.heap[(G+1)]? = some (.cells cs 75 fr))(ht:Touch ((G+1)) ((G+1)+1) W W2)(k:Nat)(hk:k<11)(hne:k≠8)(hkill:8∉(partitemr y L R G (B)).kill k)(v:Value)(hfact:(partitemr y L R G (B)).fact k v W):(partitemr y L R G (B)).fact k v W2:=by
 match k,hk,hne,hkill,hfact with
 | 0,_,_,_,hq=>exact hq
 | 1,_,_,_,hq=>exact hq
 | 2,_,_,_,⟨a1,n1,c1,k1,m1,e1,hv,q_0,q_1⟩=>exact ⟨a1,n1,c1,k1,m1,e1,hv,q_0.touched ht (by omega),q_1⟩
 | 3,_,_,_,hq=>exact hq
 | 4,_,_,_,hq=>exact hq
 | 5,_,_,_,⟨a2,n2,c2,k2,m2,e2,hv,q_0,q_1⟩=>exact ⟨a2,n2,c2,k2,m2,e2,hv,q_0.touched ht (by omega),q_1⟩
 | 6,_,_,_,⟨gr,hv,q_0,q_1⟩=>exact ⟨gr,hv,q_0.touched ht (by omega),q_1⟩
 | 7,_,_,_,⟨a0,n0,c0,k0,m0,e0,hv,q_0,q_1⟩=>exact ⟨a0,n0,c0,k0,m0,e0,hv,q_0.touched ht (by omega),q_1⟩
 | 8,_,hne,_,_=>exact absurd rfl hne
 | 9,_,_,_,q_0=>exact box_box q_0 hg (by decide) ht
 | 10,_,_,hkill,_=>exact absurd (List.Mem.head _) hkill
 | k+11,hk,_,_,_=>omega
theorem partItem_R (y:PT)(L:Nat)(w:World)(hLw:L≤w.heap.size)(hy1:W64 y.attr)(hy2:y.val.size≤9223372036854775807) :
  Calls Tryz.prog 154 #[.agg #[.int .i64 y.attr,.string y.val]] w fun e w'=>ItR L w.heap.size 2 (parI y) e w'∧Below w.heap.size w w':=by
 obtain ⟨w1,hw1⟩:∃ w1,w1=(w.alloc (.cells #[.int .i64 y.attr,.string y.val] 172)).alloc (.cells #[.int .i64 0,.int .i64 0,.bool false,.slice none 0 0,.slice none 0 0] 75):=⟨_,rfl⟩
 have hbb:Below w.heap.size w w1:=by rw [hw1]; exact ((Below.refl _ _).alloc (Nat.le_refl _) _).alloc (by simp) _
 have HB1:Hid (_∧_):=two_blocks w (.cells #[.int .i64 y.attr,.string y.val] 172) (.cells #[.int .i64 0,.int .i64 0,.bool false,.slice none 0 0,.slice none 0 0] 75)
 rw [← hw1] at HB1
 have hsz:w1.heap.size=w.heap.size+2:=by rw [hw1]; simp
 have HGB:L≤w.heap.size∧w.heap.size+1<w1.heap.size:=⟨hLw,by omega⟩
 have HLB:∀ W,Below w.heap.size w1 W→L≤W.heap.size:=fun W hW=>by have:=hW.size; omega
 have HBB:w.heap.size≤w1.heap.size:=hbb.size
 have HW:Hid (_=_):=hw1
 clear hw1
 go_enter Tryz.func154,Tryz.ntmps154
 go_upto_region 1 with fail
 rw [← HW.out]
 clear HW
 refine wp_region_ri (partitemr y L w1.heap.size w.heap.size (w.heap.size)) [3,4,5,6,7,8,9,10] (w.heap.size) (fun a0=>a0.tmps.size=11∧aT a0 1=.pointer (some ⟨w.heap.size,0,none⟩)∧aT a0 2=.pointer (some ⟨(w.heap.size+1),0,none⟩)) (by kernel_rfl) rfl (by kernel_rfl) rfl ⟨rfl,rfl,rfl⟩ (partitemr_stb y L w1.heap.size w.heap.size (w.heap.size)) ?_ ?_ ?_
 ·intro k hk hk2
  match k,hk,hk2 with
  | 9,_,_=>exact HB1.out.1
  | 10,_,_=>exact HB1.out.2
  | 0,hk,_=>exact absurd hk (by show ¬ (9≤0); omega)
  | 1,hk,_=>exact absurd hk (by show ¬ (9≤1); omega)
  | 2,hk,_=>exact absurd hk (by show ¬ (9≤2); omega)
  | 3,hk,_=>exact absurd hk (by show ¬ (9≤3); omega)
  | 4,hk,_=>exact absurd hk (by show ¬ (9≤4); omega)
  | 5,hk,_=>exact absurd hk (by show ¬ (9≤5); omega)
  | 6,hk,_=>exact absurd hk (by show ¬ (9≤6); omega)
  | 7,hk,_=>exact absurd hk (by show ¬ (9≤7); omega)
  | 8,hk,_=>exact absurd hk (by show ¬ (9≤8); omega)
  | k+11,_,hk2=>exact absurd hk2 (by show ¬ (k+11<11); omega)
 ·rintro a0 ⟨hz,g1,g2⟩
  refine StepsRI.cons ?_ (StepsRI.cons ?_ (StepsRI.cons ?_ (StepsRI.cons ?_ (StepsRI.cons ?_ (StepsRI.cons ?_ (StepsRI.cons ?_ (StepsRI.cons ?_ (StepsRI.cons ?_ (StepsRI.nil)))))))))
  ·intro lQ b W hI hUN hED KQ hKQ
   exact opw_field 172 1 0 rfl _ ((hI.fr.same 1 (by decide)).trans g1) _ (by kernel_rfl) (hKQ.out _ _ (hI.put 0 3 rfl rfl (by rw [hz]; decide) rfl hUN rfl HBB (partitemr_stb y L w1.heap.size w.heap.size (w.heap.size)) (Below.refl _ _) rfl))
  ·intro lQ b W hI hUN hED KQ hKQ
   have f:=hI.got 0 (of_decide_eq_true rfl) (edge hED 0 (by kernel_rfl)) rfl
   have hg:=(hI.vot 9 (of_decide_eq_true rfl) (of_decide_eq_true rfl) rfl)
   have hc:W.cell? ⟨w.heap.size,0,none⟩=some (.int .i64 y.attr):=(cell_of_row _ _ 0 _ _ (0,0) hg).trans rfl
   exact opw_load1 2 3 rfl _ f _ (by simp [Instr.loadAt,go_sem,hc]) (hKQ.out _ _ (hI.put 1 4 rfl rfl (by rw [hz]; decide) rfl hUN rfl HBB (partitemr_stb y L w1.heap.size w.heap.size (w.heap.size)) (Below.refl _ _) rfl))
  ·intro lQ b W hI hUN hED KQ hKQ
   have f0:aT b 4=.int .i64 y.attr:=hI.got 1 (of_decide_eq_true rfl) (edge hED 1 (by kernel_rfl)) rfl
   refine opw_call 101 #[.tmp 4] _ _ _ rfl Tryz.func101 (by kernel_rfl) rfl #[.int .i64 y.attr] (by simp [ev,f0]) ?_
   refine (numberItem_R y.attr L W hy1).mono ?_
   rintro r W2 ⟨⟨a1,n1,c1,k1,m1,e1,rfl,hzI⟩,hb⟩
   exact ⟨_,rfl,hKQ.out _ _ (hI.put 2 5 rfl rfl (by rw [hz]; decide) rfl hUN rfl HBB (partitemr_stb y L w1.heap.size w.heap.size (w.heap.size)) hb ⟨a1,n1,c1,k1,m1,e1,rfl,((hzI.mono hI.bel.size).le (by decide)),HGB⟩)⟩
  ·intro lQ b W hI hUN hED KQ hKQ
   exact opw_field 172 1 1 rfl _ ((hI.fr.same 1 (by decide)).trans g1) _ (by kernel_rfl) (hKQ.out _ _ (hI.put 3 6 rfl rfl (by rw [hz]; decide) rfl hUN rfl HBB (partitemr_stb y L w1.heap.size w.heap.size (w.heap.size)) (Below.refl _ _) rfl))
  ·intro lQ b W hI hUN hED KQ hKQ
   have f:=hI.got 3 (of_decide_eq_true rfl) (edge hED 3 (by kernel_rfl)) rfl
   have hg:=(hI.vot 9 (of_decide_eq_true rfl) (of_decide_eq_true rfl) rfl)
   have hc:W.cell? ⟨w.heap.size,1,none⟩=some (.string y.val):=(cell_of_row _ _ 1 _ _ (0,0) hg).trans rfl
   exact opw_load1 9 6 rfl _ f _ (by simp [Instr.loadAt,go_sem,hc]) (hKQ.out _ _ (hI.put 4 7 rfl rfl (by rw [hz]; decide) rfl hUN rfl HBB (partitemr_stb y L w1.heap.size w.heap.size (w.heap.size)) (Below.refl _ _) rfl))
  ·intro lQ b W hI hUN hED KQ hKQ
   have f0:aT b 7=.string y.val:=hI.got 4 (of_decide_eq_true rfl) (edge hED 4 (by kernel_rfl)) rfl
   refine opw_call 158 #[.tmp 7] _ _ _ rfl Tryz.func158 (by kernel_rfl) rfl #[.string y.val] (by simp [ev,f0]) ?_
   refine (textItem_R y.val L W hy2 (HLB W hI.bel)).mono ?_
   rintro r W2 ⟨⟨a2,n2,c2,k2,m2,e2,rfl,hzI⟩,hb⟩
   exact ⟨_,rfl,hKQ.out _ _ (hI.put 5 8 rfl rfl (by rw [hz]; decide) rfl hUN rfl HBB (partitemr_stb y L w1.heap.size w.heap.size (w.heap.size)) hb ⟨a2,n2,c2,k2,m2,e2,rfl,((hzI.mono hI.bel.size).le (by decide)),HGB⟩)⟩
  ·intro lQ b W hI hUN hED KQ hKQ
   obtain ⟨a1,n1,c1,k1,m1,e1,f1,o1,_⟩:=hI.got 2 (of_decide_eq_true rfl) (edge hED 2 (by kernel_rfl)) rfl
   replace f1:aT b 5=.agg #[.int .i64 (numI y.attr).cls,.int .i64 (numI y.attr).tag,.bool (numI y.attr).cons,.slice a1 n1 c1,.slice k1 m1 e1]:=f1
   obtain ⟨a2,n2,c2,k2,m2,e2,f2,o2,_⟩:=hI.got 5 (of_decide_eq_true rfl) (edge hED 5 (by kernel_rfl)) rfl
   replace f2:aT b 8=.agg #[.int .i64 (bytI (bytesOf y.val)).cls,.int .i64 (bytI (bytesOf y.val)).tag,.bool (bytI (bytesOf y.val)).cons,.slice a2 n2 c2,.slice k2 m2 e2]:=f2
   refine opw_buildSliceT _ 2 _ rfl #[(0,.agg #[.int .i64 (numI y.attr).cls,.int .i64 (numI y.attr).tag,.bool (numI y.attr).cons,.slice a1 n1 c1,.slice k1 m1 e1]),(1,.agg #[.int .i64 (bytI (bytesOf y.val)).cls,.int .i64 (bytI (bytesOf y.val)).tag,.bool (bytI (bytesOf y.val)).cons,.slice a2 n2 c2,.slice k2 m2 e2])] (by simp [ev,f1,f2]) (.slice (some ⟨W.heap.size,0,none⟩) 2 2) (W.alloc (.cells #[.int .i64 (numI y.attr).cls,.int .i64 (numI y.attr).tag,.bool (numI y.attr).cons,.slice a1 n1 c1,.slice k1 m1 e1,.int .i64 (bytI (bytesOf y.val)).cls,.int .i64 (bytI (bytesOf y.val)).tag,.bool (bytI (bytesOf y.val)).cons,.slice a2 n2 c2,.slice k2 m2 e2] 75)) (by kernel_rfl) ?_
   exact hKQ.out _ _ (hI.put 6 9 rfl rfl (by rw [hz]; decide) rfl hUN rfl HBB (partitemr_stb y L w1.heap.size w.heap.size (w.heap.size)) ((Below.refl _ _).alloc (Nat.le_refl _) _) ⟨W.heap.size,rfl,kidZ_n2 hI.bel.size o1 o2,HGB⟩)
  ·intro lQ b W hI hUN hED KQ hKQ
   obtain ⟨gr,f0,o0,_⟩:=hI.got 6 (of_decide_eq_true rfl) (edge hED 6 (by kernel_rfl)) rfl
   replace f0:aT b 9=.slice (some ⟨gr,0,none⟩) 2 2:=f0
   refine opw_call 152 #[.tmp 9] _ _ _ rfl Tryz.func152 (by kernel_rfl) rfl #[.slice (some ⟨gr,0,none⟩) 2 2] (by simp [ev,f0]) ?_
   refine (structItem_R o0 rfl).mono ?_
   rintro r W2 ⟨⟨a0,n0,c0,k0,m0,e0,rfl,hzI⟩,hb⟩
   exact ⟨_,rfl,hKQ.out _ _ (hI.put 7 10 rfl rfl (by rw [hz]; decide) rfl hUN rfl HBB (partitemr_stb y L w1.heap.size w.heap.size (w.heap.size)) hb ⟨a0,n0,c0,k0,m0,e0,rfl,hzI,HGB⟩)⟩
  ·intro lQ b W hI hUN hED KQ hKQ
   have hgb:=(hI.vot1 10 8 (of_decide_eq_true rfl) (of_decide_eq_true rfl) hUN rfl)
   have fb:=((hI.fr.same 2 (by decide)).trans g2)
   have f:=hI.got 7 (of_decide_eq_true rfl) (edge hED 7 (by kernel_rfl)) rfl
   obtain ⟨a0,n0,c0,k0,m0,e0,f,o_0,o_1⟩:=f
   refine wp_store_row 75 _ _ rfl ((w.heap.size+1)) #[.int .i64 (parI y).cls,.int .i64 (parI y).tag,.bool (parI y).cons,.slice a0 n0 c0,.slice k0 m0 e0] fb f 75 _ hgb (by kernel_rfl) rfl (by simp [Value.oneCell']) ?_
   have ht:=setRow_touch W ((w.heap.size+1)) #[.int .i64 (parI y).cls,.int .i64 (parI y).tag,.bool (parI y).cons,.slice a0 n0 c0,.slice k0 m0 e0]
   exact hKQ.out _ _ (hI.store 8 (fun j hj=>by cases hj) (hI.bel.trans (ht.below (by first | exact HGE2 | omega) (Nat.le_trans HBB hI.bel.size))) (partitemr_st8 y L w1.heap.size w.heap.size (w.heap.size) hgb ht) ⟨a0,n0,c0,k0,m0,e0,(setRow_heap W ((w.heap.size+1)) _ _ _ _ hgb),o_0.touched ht (by omega),o_1⟩)
 ·intro b W hf hb F
  obtain ⟨a0,n0,c0,k0,m0,e0,hbx,hz,_⟩:=F 8 (of_decide_eq_true rfl) rfl
  rw [hf.eq]
  simp only [puts,Act.put,List.setIfInBounds_toArray,List.set_cons_zero,List.set_cons_succ]
  clear hf F
  generalize aT b=AT
  clear b
  go_wp2
  try simp only [Exit.inBlock,Exit.then]
  exact bodyPost_ret (results_it rfl _ (w.heap.size+1) rfl _ _ _ _ _ _ hbx) rfl ⟨⟨a0,n0,c0,k0,m0,e0,rfl,hz.mono hbb.size⟩,hbb.trans hb⟩
theorem Par_next (xs:List PT)(k:Nat)(h:k<xs.length):(xs.take (k+1)).map parI=(xs.take k).map parI++[parI (xs.getD k default)]:=by
 rw [List.take_add_one,List.map_append]
 simp [h]
theorem eachPar_R (a:Option Addr)(n c:Nat)(xs:List PT)(L:Nat)(w:World)(hLw:L≤w.heap.size)(h:Pts w a n xs)(hw:∀ k,k<n→W64 (xs.getD k default).attr)(hn:n≤1000) :
  Calls Tryz.prog 182 #[.slice a n c,.func (Fn.func 154) #[] #[]] w fun e w'=>∃ ao co,e=.returned (.slice ao n co)∧OwnItZ 2 L w.heap.size w' ao n co (xs.map parI)∧Below w.heap.size w w':=by
 obtain ⟨i0,hi,hz0,hz1,hz2⟩:=info_parts Tryz.infoIt
 have H0:Hid (Pts w a n xs):=h
 have HPw:Hid (∀ k,k<n→W64 (xs.getD k default).attr):=hw
 have HLX:Hid (xs.length=n):=h.len
 clear h hw
 go_enter Tryz.func182,Tryz.ntmps182
 go_wp2
 go_loopw [5,10] (fun o i wr=>∃ (k:Nat) (ao:Option Addr) (cc:Nat),k≤n∧i=.int .i64 k∧o=.slice ao k cc∧Hid (OwnItZ 2 L w.heap.size wr ao k cc ((xs.take k).map parI))∧Below w.heap.size w wr) (fun _ i _=>n - (intOf i).toNat)
 case atStart=>exact ⟨0,none,0,Nat.zero_le _,rfl,rfl,ownItZ_none _ _ _ _,Below.refl _ _⟩
 case round =>
  obtain ⟨k,ao,cc,hk,rfl,rfl,HO,hbr⟩:=hrel
  have hws:=hbr.size
  by_cases hlt:k<n
  ·obtain ⟨b,off,rfl,hlb,hc,hsz⟩:=H0.out.get k hlt
   obtain ⟨y,hy⟩:∃ y,y=xs.getD k default:=⟨_,rfl⟩
   rw [← hy] at hc hsz
   have HYW:Hid (W64 y.attr):=by show W64 _; rw [hy]; exact HPw.out k hlt
   have HYS:Hid (y.val.size≤9223372036854775807):=hsz
   obtain ⟨z,hz⟩:∃ z,z=parI y:=⟨_,rfl⟩
   have HXK:Hid ((xs.take (k+1)).map parI=(xs.take k).map parI++[z]):=by show _=_; rw [hz,hy]; exact Par_next xs k (by rw [HLX.out]; exact hlt)
   obtain ⟨c0,c1⟩:=hc.of (w':=wr) (fun i=>hbr.cell (p:=⟨b,i,none⟩) hlb)
   clear hc hsz
   have hkni:(k:Int)<(n:Int):=by omega
   have hbw:b<wr.heap.size:=by omega
   have hbz:Below wr.heap.size wr (wr.alloc (.cells #[.int .i64 y.attr,.string y.val] 172)):=(Below.refl _ _).alloc (Nat.le_refl _) _
   have hbz2:Below w.heap.size w (wr.alloc (.cells #[.int .i64 y.attr,.string y.val] 172)):=hbr.trans (hbz.mono hws)
   have HCON:Hid (Calls Tryz.prog 154 #[.agg #[.int .i64 y.attr,.string y.val]] (wr.alloc (.cells #[.int .i64 y.attr,.string y.val] 172)) fun e w'=>ItR L (wr.alloc (.cells #[.int .i64 y.attr,.string y.val] 172)).heap.size 2 z e w'∧Below (wr.alloc (.cells #[.int .i64 y.attr,.string y.val] 172)).heap.size (wr.alloc (.cells #[.int .i64 y.attr,.string y.val] 172)) w'):=by rw [hz]; exact partItem_R y L _ (by have:=hbz.size; omega) HYW.out HYS.out
   clear hy hz
   go_wp2_with fail
   refine HCON.out.mono ?_
   rintro e w2 ⟨⟨ab,nb,cb,ak,nk,ck,rfl,hit⟩,hb2⟩
   have hb2r:Below wr.heap.size wr w2:=keepT hbz hb2
   have B2:Below w.heap.size w w2:=hbr.trans (hb2r.mono hws)
   have hal:Below w2.heap.size w2 (w2.alloc (.cells #[.int .i64 z.cls,.int .i64 z.tag,.bool z.cons,.slice ab nb cb,.slice ak nk ck] 75)):=(Below.refl _ _).alloc (Nat.le_refl _) _
   have B6:Below w.heap.size w (w2.alloc (.cells #[.int .i64 z.cls,.int .i64 z.tag,.bool z.cons,.slice ab nb cb,.slice ak nk ck] 75)):=B2.trans (hal.mono B2.size)
   have hs6:(w2.alloc (.cells #[.int .i64 z.cls,.int .i64 z.tag,.bool z.cons,.slice ab nb cb,.slice ak nk ck] 75)).heap.size=w2.heap.size+1:=by simp
   have hs2:=hb2r.size
   have hsz1:=hbz.size
   have HQ3:Hid (OwnItZ 2 L w.heap.size (w2.alloc (.cells #[.int .i64 z.cls,.int .i64 z.tag,.bool z.cons,.slice ab nb cb,.slice ak nk ck] 75)) ao k cc ((xs.take k).map parI)):=(HO.out.kept hb2r).kept hal
   obtain ⟨vs,hrow⟩:=HQ3.out.row
   have HROW:Hid (_):=hrow
   have hown:∀ b,(Value.slice ao k cc).ownBlock=some b→w.heap.size≤b∧b<wr.heap.size:=fun b hb=>by obtain ⟨vs0,hv0⟩:=HO.out.row; exact ⟨HO.out.2 b hb,(hv0.lt b hb).2⟩
   have HAPP:Hid (∀ g7 c7 w7,w7.ownsRow 0 75 5 (.slice (some ⟨g7,0,none⟩) (k+1) c7) (k+1) (vs++itc z ab nb cb ak nk ck)→(w2.alloc (.cells #[.int .i64 z.cls,.int .i64 z.tag,.bool z.cons,.slice ab nb cb,.slice ak nk ck] 75)).grownBy w7 (Value.slice ao k cc).ownBlock→((Value.slice ao k cc).ownBlock=some g7∨g7=w2.heap.size+1)→OwnItZ 2 L w.heap.size w7 (some ⟨g7,0,none⟩) (k+1) c7 ((xs.take (k+1)).map parI)∧Below w.heap.size w w7):=by
    intro g7 c7 w7 hv7 hg7 hl7
    have hit2:=hit.kept hal
    rw [HXK.out]
    refine ⟨HQ3.out.appended hit2.it (fun b hb=>⟨by have:=hb.1; omega,hb.2,fun e=>by have:=hown b e; have:=hb.1; omega⟩) (by omega) HROW.out hv7 hg7 (by rw [hs6]; exact hl7) B6.size,B6.grown hg7 (by have:=B6.size; omega) (fun kx hx=>HQ3.out.2 kx hx)⟩
   clear c0 c1 hrow HO hb2 hb2r B2 hal hbz hbz2 hit HCON
   go_wp2_with (at_builtin; refine wpList_append_lies _ rfl (.tmp 14) (.tmp 18) 73 rfl 0 75 i0 _ 5 72 Tryz.underlying73 hi hz0 hz1 hz2 rfl (by decide) _ k vs rfl HROW.out ⟨w2.heap.size,0,none⟩ 1 1 [.int .i64 z.cls,.int .i64 z.tag,.bool z.cons,.slice ab nb cb,.slice ak nk ck] rfl rfl (World.news_of_block (heap_alloc_new w2 (.cells #[.int .i64 z.cls,.int .i64 z.tag,.bool z.cons,.slice ab nb cb,.slice ak nk ck] 75))) (by intro u hu; simp only [List.mem_cons,List.not_mem_nil,or_false] at hu; rcases hu with rfl | rfl | rfl | rfl | rfl <;> rfl) (by decide) (by unfold maxLen; omega) (by omega) (Nat.zero_le _) (w2.heap.size+1) (by simp) ?_; intro g7 c7 w7 hv7 hg7 hl7 hlt7; have HN7:=HAPP.out g7 c7 w7 hv7 hg7 hl7; have HO7:Hid (_):=HN7.1; have B7:=HN7.2; clear hv7 hg7 hl7 hlt7 HN7 HAPP HQ3 HROW)
   go_roundw
   case rel=>exact ⟨k+1,_,c7,by omega,by go_num,rfl,HO7,B7⟩
   case measure=>simp [intOf]; omega
  ·obtain rfl:k=n:=by omega
   have HX:Hid (xs.take k=xs):=by show _=_; rw [List.take_of_length_le (by rw [HLX.out]; exact Nat.le_refl _)]
   go_wp2
   go_ret
   refine ⟨ao,cc,rfl,?_,hbr⟩
   have:=HO.out
   rw [HX.out] at this
   exact this
theorem listItemPar_R (a:Option Addr)(n c:Nat)(xs:List PT)(L:Nat)(w:World)(hLw:L≤w.heap.size)(h:Pts w a n xs)(hw:∀ k,k<n→W64 (xs.getD k default).attr)(hn:n≤1000) :
  Calls Tryz.prog 153 #[.slice a n c,.func (Fn.func 154) #[] #[]] w fun e w'=>ItR L w.heap.size 3 (lstI (xs.map parI)) e w'∧Below w.heap.size w w':=by
 have hbx:=box5_below w
 have hsz:=box5_size w
 have HB5:Hid (_=_):=box5_new w
 have HE:Hid (_):=eachPar_R a n c xs L (box5 w) (by omega) (h.kept hbx) hw hn
 clear h hw
 go_enter Tryz.func153,Tryz.ntmps153
 go_wp2_with fail
 refine Calls.mono HE.out ?_
 rintro e w2 ⟨ao,co,rfl,ho,hb2⟩
 have HK:Hid (KidsI 3 (fun b=>(b<L∨(box5 w).heap.size≤b)∧b<w2.heap.size) w2 ao n (xs.map parI)):=ho.kids
 have h5:=below_kept HB5.out hb2
 obtain ⟨_,q0,q1,q2,q3,q4,q5,q6,q7,q8,q9⟩:=Box5.of h5
 have H5:Hid (_=_):=h5
 have B2:Below w.heap.size w w2:=keepT hbx hb2
 have hs2:=hb2.size
 clear ho h5 hb2 HE
 go_wp2_with fail
 try simp only [Exit.inBlock,Exit.then]
 have T:=put5_touch w2 w.heap.size (.int .i64 0) (.int .i64 17) (.bool true) (.slice none 0 0) (.slice ao n co)
 have hZ:ListZ L (w.heap.size+1) 3 w2 ao n (xs.map parI):=⟨HK.out.mono (fun b hb=>⟨by have:=hb.1; omega,hb.2⟩)⟩
 exact bodyPost_ret (results_it rfl _ w.heap.size rfl _ _ _ _ _ _ (put5_heap H5.out _ _ _ _ _)) rfl ⟨⟨_,_,_,_,_,_,rfl,(hZ.itz (co:=co)).put hLw (by omega) _ _ _ _ _⟩,B2.trans (T.below (Nat.le_refl _) B2.size)⟩
def nameitemr (a:Option Addr)(n c:Nat)(xs:List PT)(L R G B:Nat):RSpec where
 m:=6
 n:=8
 slots:=[3,4,5,6,7,100005,100006,100007]
 kills:=[[],[],[],[],[],[],[],[5]]
 pres:=[[],[],[],[],[],[],[],[]]
 fact:=fun k v w=>match k with
  | 0=>v=.pointer (some ⟨G,0,none⟩)
  | 1=>v=.slice a n c
  | 2=>∃ a1 n1 c1 k1 m1 e1,v=.agg #[.int .i64 (lstI (xs.map parI)).cls,.int .i64 (lstI (xs.map parI)).tag,.bool (lstI (xs.map parI)).cons,.slice a1 n1 c1,.slice k1 m1 e1]∧ItZ L R 3 w (lstI (xs.map parI)) a1 n1 c1 k1 m1 e1∧L≤G∧G+1<R
  | 3=>∃ gr,v=.slice (some ⟨gr,0,none⟩) 1 1∧KidZ L R w gr 4 [lstI (xs.map parI)]∧L≤G∧G+1<R
  | 4=>∃ a0 n0 c0 k0 m0 e0,v=.agg #[.int .i64 (namI xs).cls,.int .i64 (namI xs).tag,.bool (namI xs).cons,.slice a0 n0 c0,.slice k0 m0 e0]∧ItZ L R 4 w (namI xs) a0 n0 c0 k0 m0 e0∧L≤G∧G+1<R
  | 5=>∃ a0 n0 c0 k0 m0 e0,w.heap[(G+1)]? = some (.cells #[.int .i64 (namI xs).cls,.int .i64 (namI xs).tag,.bool (namI xs).cons,.slice a0 n0 c0,.slice k0 m0 e0] 75 (0,0))∧ItZ L R 4 w (namI xs) a0 n0 c0 k0 m0 e0∧L≤G∧G+1<R
  | 6=>w.heap[G]? = some (.cells #[.slice a n c] 40 (0,0))
  | _=>w.heap[(G+1)]? = some (.cells #[.int .i64 0,.int .i64 0,.bool false,.slice none 0 0,.slice none 0 0] 75 (0,0))
theorem nameitemr_stb (a:Option Addr)(n c:Nat)(xs:List PT)(L R G B:Nat)(k:Nat)(hk:k<8):StB ((nameitemr a n c xs L R G (B)).fact k):=by
 match k,hk with
 | 0,_=>exact fun _ _ _ h _=>h
 | 1,_=>exact fun _ _ _ h _=>h
 | 2,_=>exact fun _ _ _ ⟨a1,n1,c1,k1,m1,e1,hv,q_0,q_1⟩ hb=>⟨a1,n1,c1,k1,m1,e1,hv,q_0.kept hb,q_1⟩
 | 3,_=>exact fun _ _ _ ⟨gr,hv,q_0,q_1⟩ hb=>⟨gr,hv,q_0.kept hb,q_1⟩
 | 4,_=>exact fun _ _ _ ⟨a0,n0,c0,k0,m0,e0,hv,q_0,q_1⟩ hb=>⟨a0,n0,c0,k0,m0,e0,hv,q_0.kept hb,q_1⟩
 | 5,_=>exact fun _ _ _ ⟨a0,n0,c0,k0,m0,e0,q_0,q_1,q_2⟩ hb=>⟨a0,n0,c0,k0,m0,e0,below_kept q_0 hb,q_1.kept hb,q_2⟩
 | 6,_=>exact fun _ _ _ q_0 hb=>below_kept q_0 hb
 | 7,_=>exact fun _ _ _ q_0 hb=>below_kept q_0 hb
 | k+8,hk=>omega
theorem nameitemr_st5 (a:Option Addr)(n c:Nat)(xs:List PT)(L R G B:Nat){W W2:World}{cs:Array Value}{fr:Nat × Nat}(hg:W.heap[(G+1)]? = some (.cells cs 75 fr))(ht:Touch ((G+1)) ((G+1)+1) W W2)(k:Nat)(hk:k<8)(hne:k≠5)(hkill:5∉(nameitemr a n c xs L R G (B)).kill k)(v:Value)(hfact:(nameitemr a n c xs L R G (B)).fact k v W):(nameitemr a n c xs L R G (B)).fact k v W2:=by
 match k,hk,hne,hkill,hfact with
 | 0,_,_,_,hq=>exact hq
 | 1,_,_,_,hq=>exact hq
 | 2,_,_,_,⟨a1,n1,c1,k1,m1,e1,hv,q_0,q_1⟩=>exact ⟨a1,n1,c1,k1,m1,e1,hv,q_0.touched ht (by omega),q_1⟩
 | 3,_,_,_,⟨gr,hv,q_0,q_1⟩=>exact ⟨gr,hv,q_0.touched ht (by omega),q_1⟩
 | 4,_,_,_,⟨a0,n0,c0,k0,m0,e0,hv,q_0,q_1⟩=>exact ⟨a0,n0,c0,k0,m0,e0,hv,q_0.touched ht (by omega),q_1⟩
 | 5,_,hne,_,_=>exact absurd rfl hne
 | 6,_,_,_,q_0=>exact box_box q_0 hg (by decide) ht
 | 7,_,_,hkill,_=>exact absurd (List.Mem.head _) hkill
 | k+8,hk,_,_,_=>omega
theorem nameItem_R (a:Option Addr)(n c:Nat)(xs:List PT)(L:Nat)(w:World)(hLw:L≤w.heap.size)(h:Pts w a n xs)(hw:∀ k,k<n→W64 (xs.getD k default).attr)(hn:n≤1000) :
  Calls Tryz.prog 102 #[.agg #[.slice a n c]] w fun e w'=>ItR L w.heap.size 4 (namI xs) e w'∧Below w.heap.size w w':=by
 obtain ⟨w1,hw1⟩:∃ w1,w1=(w.alloc (.cells #[.slice a n c] 40)).alloc (.cells #[.int .i64 0,.int .i64 0,.bool false,.slice none 0 0,.slice none 0 0] 75):=⟨_,rfl⟩
 have hbb:Below w.heap.size w w1:=by rw [hw1]; exact ((Below.refl _ _).alloc (Nat.le_refl _) _).alloc (by simp) _
 have HB1:Hid (_∧_):=two_blocks w (.cells #[.slice a n c] 40) (.cells #[.int .i64 0,.int .i64 0,.bool false,.slice none 0 0,.slice none 0 0] 75)
 rw [← hw1] at HB1
 have hsz:w1.heap.size=w.heap.size+2:=by rw [hw1]; simp
 have HGB:L≤w.heap.size∧w.heap.size+1<w1.heap.size:=⟨hLw,by omega⟩
 have HLB:∀ W,Below w.heap.size w1 W→L≤W.heap.size:=fun W hW=>by have:=hW.size; omega
 have HBB:w.heap.size≤w1.heap.size:=hbb.size
 have HW:Hid (_=_):=hw1
 clear hw1
 go_enter Tryz.func102,Tryz.ntmps102
 go_upto_region 1 with fail
 rw [← HW.out]
 clear HW
 refine wp_region_rp (nameitemr a n c xs L w1.heap.size w.heap.size (w.heap.size)) [3,4,5,6,7] (w.heap.size) (fun a0=>a0.tmps.size=8∧aT a0 1=.pointer (some ⟨w.heap.size,0,none⟩)∧aT a0 2=.pointer (some ⟨(w.heap.size+1),0,none⟩)) rfl (by kernel_rfl) rfl ⟨rfl,rfl,rfl⟩ (nameitemr_stb a n c xs L w1.heap.size w.heap.size (w.heap.size)) ?_ ?_ ?_
 ·intro k hk hk2
  match k,hk,hk2 with
  | 6,_,_=>exact HB1.out.1
  | 7,_,_=>exact HB1.out.2
  | 0,hk,_=>exact absurd hk (by show ¬ (6≤0); omega)
  | 1,hk,_=>exact absurd hk (by show ¬ (6≤1); omega)
  | 2,hk,_=>exact absurd hk (by show ¬ (6≤2); omega)
  | 3,hk,_=>exact absurd hk (by show ¬ (6≤3); omega)
  | 4,hk,_=>exact absurd hk (by show ¬ (6≤4); omega)
  | 5,hk,_=>exact absurd hk (by show ¬ (6≤5); omega)
  | k+8,_,hk2=>exact absurd hk2 (by show ¬ (k+8<8); omega)
 ·rintro a0 ⟨hz,g1,g2⟩
  refine StepsRI.cons ?_ (StepsRI.cons ?_ (StepsRI.cons ?_ (StepsRI.cons ?_ (StepsRI.cons ?_ (StepsRI.cons ?_ (StepsRI.nil))))))
  ·intro lQ b W hI hUN hED KQ hKQ
   exact opw_field 40 1 0 rfl _ ((hI.fr.same 1 (by decide)).trans g1) _ (by kernel_rfl) (hKQ.out _ _ (hI.put 0 3 rfl rfl (by rw [hz]; decide) rfl hUN rfl HBB (nameitemr_stb a n c xs L w1.heap.size w.heap.size (w.heap.size)) (Below.refl _ _) rfl))
  ·intro lQ b W hI hUN hED KQ hKQ
   have f:=hI.got 0 (of_decide_eq_true rfl) (edge hED 0 (by kernel_rfl)) rfl
   have hg:=(hI.vot 6 (of_decide_eq_true rfl) (of_decide_eq_true rfl) rfl)
   have hc:W.cell? ⟨w.heap.size,0,none⟩=some (.slice a n c):=(cell_of_row _ _ 0 _ _ (0,0) hg).trans rfl
   exact opw_load1 38 3 rfl _ f _ (by simp [Instr.loadAt,go_sem,hc]) (hKQ.out _ _ (hI.put 1 4 rfl rfl (by rw [hz]; decide) rfl hUN rfl HBB (nameitemr_stb a n c xs L w1.heap.size w.heap.size (w.heap.size)) (Below.refl _ _) rfl))
  ·intro lQ b W hI hUN hED KQ hKQ
   have f0:aT b 4=.slice a n c:=hI.got 1 (of_decide_eq_true rfl) (edge hED 1 (by kernel_rfl)) rfl
   refine opw_call 153 #[.tmp 4,.func 154] _ _ _ rfl Tryz.func153 (by kernel_rfl) rfl #[.slice a n c,.func (Fn.func 154) #[] #[]] (by simp [ev,f0]; rfl) ?_
   refine (listItemPar_R a n c xs L W (HLB W hI.bel) (h.kept (hbb.trans hI.bel)) hw hn).mono ?_
   rintro r W2 ⟨⟨a1,n1,c1,k1,m1,e1,rfl,hzI⟩,hb⟩
   exact ⟨_,rfl,hKQ.out _ _ (hI.put 2 5 rfl rfl (by rw [hz]; decide) rfl hUN rfl HBB (nameitemr_stb a n c xs L w1.heap.size w.heap.size (w.heap.size)) hb ⟨a1,n1,c1,k1,m1,e1,rfl,((hzI.mono hI.bel.size).le (by decide)),HGB⟩)⟩
  ·intro lQ b W hI hUN hED KQ hKQ
   obtain ⟨a1,n1,c1,k1,m1,e1,f1,o1,_⟩:=hI.got 2 (of_decide_eq_true rfl) (edge hED 2 (by kernel_rfl)) rfl
   replace f1:aT b 5=.agg #[.int .i64 (lstI (xs.map parI)).cls,.int .i64 (lstI (xs.map parI)).tag,.bool (lstI (xs.map parI)).cons,.slice a1 n1 c1,.slice k1 m1 e1]:=f1
   refine opw_buildSliceT _ 1 _ rfl #[(0,.agg #[.int .i64 (lstI (xs.map parI)).cls,.int .i64 (lstI (xs.map parI)).tag,.bool (lstI (xs.map parI)).cons,.slice a1 n1 c1,.slice k1 m1 e1])] (by simp [ev,f1]) (.slice (some ⟨W.heap.size,0,none⟩) 1 1) (W.alloc (.cells #[.int .i64 (lstI (xs.map parI)).cls,.int .i64 (lstI (xs.map parI)).tag,.bool (lstI (xs.map parI)).cons,.slice a1 n1 c1,.slice k1 m1 e1] 75)) (by kernel_rfl) ?_
   exact hKQ.out _ _ (hI.put 3 6 rfl rfl (by rw [hz]; decide) rfl hUN rfl HBB (nameitemr_stb a n c xs L w1.heap.size w.heap.size (w.heap.size)) ((Below.refl _ _).alloc (Nat.le_refl _) _) ⟨W.heap.size,rfl,kidZ_n1 hI.bel.size o1,HGB⟩)
  ·intro lQ b W hI hUN hED KQ hKQ
   obtain ⟨gr,f0,o0,_⟩:=hI.got 3 (of_decide_eq_true rfl) (edge hED 3 (by kernel_rfl)) rfl
   replace f0:aT b 6=.slice (some ⟨gr,0,none⟩) 1 1:=f0
   refine opw_call 152 #[.tmp 6] _ _ _ rfl Tryz.func152 (by kernel_rfl) rfl #[.slice (some ⟨gr,0,none⟩) 1 1] (by simp [ev,f0]) ?_
   refine (structItem_R o0 rfl).mono ?_
   rintro r W2 ⟨⟨a0,n0,c0,k0,m0,e0,rfl,hzI⟩,hb⟩
   exact ⟨_,rfl,hKQ.out _ _ (hI.put 4 7 rfl rfl (by rw [hz]; decide) rfl hUN rfl HBB (nameitemr_stb a n c xs L w1.heap.size w.heap.size (w.heap.size)) hb ⟨a0,n0,c0,k0,m0,e0,rfl,hzI,HGB⟩)⟩
  ·intro lQ b W hI hUN hED KQ hKQ
   have hgb:=(hI.vot1 7 5 (of_decide_eq_true rfl) (of_decide_eq_true rfl) hUN rfl)
   have fb:=((hI.fr.same 2 (by decide)).trans g2)
   have f:=hI.got 4 (of_decide_eq_true rfl) (edge hED 4 (by kernel_rfl)) rfl
   obtain ⟨a0,n0,c0,k0,m0,e0,f,o_0,o_1⟩:=f
   refine wp_store_row 75 _ _ rfl ((w.heap.size+1)) #[.int .i64 (namI xs).cls,.int .i64 (namI xs).tag,.bool (namI xs).cons,.slice a0 n0 c0,.slice k0 m0 e0] fb f 75 _ hgb (by kernel_rfl) rfl (by simp [Value.oneCell']) ?_
   have ht:=setRow_touch W ((w.heap.size+1)) #[.int .i64 (namI xs).cls,.int .i64 (namI xs).tag,.bool (namI xs).cons,.slice a0 n0 c0,.slice k0 m0 e0]
   exact hKQ.out _ _ (hI.store 5 (fun j hj=>by cases hj) (hI.bel.trans (ht.below (by first | exact HGE2 | omega) (Nat.le_trans HBB hI.bel.size))) (nameitemr_st5 a n c xs L w1.heap.size w.heap.size (w.heap.size) hgb ht) ⟨a0,n0,c0,k0,m0,e0,(setRow_heap W ((w.heap.size+1)) _ _ _ _ hgb),o_0.touched ht (by omega),o_1⟩)
 ·intro b W hf hb F
  obtain ⟨a0,n0,c0,k0,m0,e0,hbx,hz,_⟩:=F 5 (of_decide_eq_true rfl) rfl
  rw [hf.eq]
  simp only [puts,Act.put,List.setIfInBounds_toArray,List.set_cons_zero,List.set_cons_succ]
  clear hf F
  generalize aT b=AT
  clear b
  go_wp2
  try simp only [Exit.inBlock,Exit.then]
  exact bodyPost_ret (results_it rfl _ (w.heap.size+1) rfl _ _ _ _ _ _ hbx) rfl ⟨⟨a0,n0,c0,k0,m0,e0,rfl,hz.mono hbb.size⟩,hbb.trans hb⟩
open Go.RowKit
structure Row64O (lo:Nat)(W:World)(a:Option Addr)(n:Nat)(xs:List Int):Prop where
 row:Row64 W a n xs
 fr:FR 1 lo W.heap.size W a n
theorem Row64O.lo {l l':Nat}{W:World}{a:Option Addr}{n:Nat}{xs:List Int}(h:Row64O l W a n xs)(hl:l'≤l):Row64O l' W a n xs:=⟨h.row,h.fr.mono hl (Nat.le_refl _)⟩
structure PmsO (lo:Nat)(W:World)(a:Option Addr)(n:Nat)(xs:List (Int × Int)):Prop where
 row:Pms W a n xs
 fr:FR 2 lo W.heap.size W a n
theorem PmsO.lo {l l':Nat}{W:World}{a:Option Addr}{n:Nat}{xs:List (Int × Int)}(h:PmsO l W a n xs)(hl:l'≤l):PmsO l' W a n xs:=⟨h.row,h.fr.mono hl (Nat.le_refl _)⟩
structure RowO (lo:Nat)(W:World)(a:Option Addr)(n:Nat)(xs:List Int):Prop where
 row:Row W a n xs
 fr:FR 1 lo W.heap.size W a n
theorem RowO.lo {l l':Nat}{W:World}{a:Option Addr}{n:Nat}{xs:List Int}(h:RowO l W a n xs)(hl:l'≤l):RowO l' W a n xs:=⟨h.row,h.fr.mono hl (Nat.le_refl _)⟩
theorem isF_map {k:IntKind}{zs:List Int}:∀ v∈zs.map (Value.int k),isF v:=fun v hv=>by
 obtain ⟨z,_,rfl⟩:=List.mem_map.1 hv
 exact isF.i _ _
theorem isF_flat {ps:List (Int × Int)}:∀ v∈flat ps,isF v:=fun v hv=>by
 unfold flat at hv
 obtain ⟨p,_,h⟩:=List.mem_flatMap.1 hv
 simp only [List.mem_cons,List.not_mem_nil,or_false] at h
 rcases h with rfl | rfl
 ·exact isF.i _ _
 ·exact isF.i _ _
theorem toInt64S_o (a:Option Addr)(n cap:Nat)(zs:List Int)(w:World)(h:Row64 w a n zs)(hn:n≤1048576) :
  Calls Tryz.prog 40 #[.slice a n cap] w fun e w'=>∃ a',e=.returned (.slice a' n n)∧Keeps w.heap.size w' (fun W=>Row64O w.heap.size W a' n zs)∧Below w.heap.size w w' :=
 (toInt64S_any a n cap zs w h hn).mono fun _ _ ⟨_,h1,h2,h3⟩=>⟨_,h1,(keeps_of stab_64 h2).map (fun _ q=>⟨q.toRow,fr_all q.row isF_map⟩),h3⟩
theorem toPolMapS_o (a:Option Addr)(n c:Nat)(ps:List (Int × Int))(w:World)(h:Pms w a n ps)(hn:n≤1048576) :
  Calls Tryz.prog 41 #[.slice a n c] w fun e w'=>∃ a',e=.returned (.slice a' n n)∧Keeps w.heap.size w' (fun W=>PmsO w.heap.size W a' n ps)∧Below w.heap.size w w' :=
 (toPolMapS_any a n c ps w h hn).mono fun _ _ ⟨_,h1,h2,h3⟩=>⟨_,h1,(keeps_of stab_pm h2).map (fun _ q=>⟨q.toPms,fr_all q.row isF_flat⟩),h3⟩
theorem toByteS_o (a:Option Addr)(n cap:Nat)(bs:List Int)(w:World)(h:Row w a n bs)(hn:n≤1048576) :
  Calls Tryz.prog 43 #[.slice a n cap] w fun e w'=>∃ a',e=.returned (.slice a' n n)∧Keeps w.heap.size w' (fun W=>RowO w.heap.size W a' n bs)∧Below w.heap.size w w' :=
 (toByteS_any a n cap bs w h hn).mono fun _ _ ⟨_,h1,h2,h3⟩=>⟨_,h1,(keeps_of (stab_own (Nat.le_refl _)) h2).map (fun _ q=>⟨q.toRow,fr_all q.row isF_map⟩),h3⟩
structure XPO (lo:Nat)(w:World)(s:XPS)(x:XP):Prop where
 r:XPR w s x
 f1:FR 1 lo w.heap.size w s.a1 s.n1
theorem XPO.lo {l l':Nat}{w:World}{s:XPS}{x:XP}(h:XPO l w s x)(hl:l'≤l):XPO l' w s x:=⟨h.r,h.f1.mono hl (Nat.le_refl _)⟩
theorem toExt_o (s:XPS)(x:XP)(w:World)(h:XPR w s x)(hz:XPZ x) :
  Calls Tryz.prog 93 #[XPv s x] w fun e w'=>∃ t:XPS,e=.returned (XPv t x)∧XPT t∧Keeps w.heap.size w' (fun W=>XPO w.heap.size W t x)∧Below w.heap.size w w':=by
 have hzn:=h.zn.1 hz
 obtain ⟨a1,n1,c1⟩:=s
 have HK:Hid (XPR w ⟨a1,n1,c1⟩ x):=h
 have HZ:Hid ((n1≤1048576)):=hzn
 clear h hz hzn
 show Calls Tryz.prog 93 #[.agg #[.int .i64 x.id,.bool x.crit,.slice a1 n1 c1]] w _
 obtain ⟨w1,hW0⟩:∃ W0,W0=(((w.alloc (.cells #[.int .i64 x.id,.bool x.crit,.slice a1 n1 c1] 108)).alloc (.cells #[.int .i64 0,.bool false,.slice none 0 0] 113)).alloc (.cells #[.int .i64 0,.bool false,.slice none 0 0] 113)):=⟨_,rfl⟩
 have hB0:Below w.heap.size w w1:=by rw [hW0]; exact three_below _ _ _ _
 have hS0:w1.heap.size=w.heap.size+3:=by rw [hW0]; simp
 obtain ⟨b0,b1,b2⟩:=three_blocks' w (.cells #[.int .i64 x.id,.bool x.crit,.slice a1 n1 c1] 108) (.cells #[.int .i64 0,.bool false,.slice none 0 0] 113) (.cells #[.int .i64 0,.bool false,.slice none 0 0] 113)
 rw [← hW0] at b0 b1 b2
 have T1:Hid (XPQ w w1 #[.int .i64 x.id,.bool x.crit,.slice a1 n1 c1] (fun _=>True) #[.int .i64 0,.bool false,.slice none 0 0]):=⟨b0,b1,b2,fun _ _ _ _ _=>trivial,trivial,hB0,by omega⟩
 clear b0 b1 b2 hB0 hS0
 go_enter Tryz.func93,Tryz.ntmps93
 go_upto_region 2 with fail
 rw [← hW0]
 clear hW0
 obtain ⟨o0,f0,l0⟩:=T1.out.out 0
 have o0:w1.cell? ⟨w.heap.size+1+1,0,none⟩=some (.int .i64 0):=o0
 have l0:w1.cell? ⟨w.heap.size,0,none⟩=some (.int .i64 x.id):=l0
 have m1:=T1.out.lt
 obtain ⟨w2,hw2⟩:∃ W,W=(w1.setCell ⟨w.heap.size+1+1,0,none⟩ (.int .i64 x.id)):=⟨_,rfl⟩
 have T2:Hid (XPQ w w2 #[.int .i64 x.id,.bool x.crit,.slice a1 n1 c1] (fun _=>True) #[.int .i64 x.id,.bool false,.slice none 0 0]):=by rw [hw2]; exact (T1.out.set 0 _ rfl)
 have HW2:Hid (_=_):=hw2
 clear hw2
 go_upto_region 3 with fail
 rw [← HW2.out]
 clear HW2 o0 f0 l0 m1 T1
 obtain ⟨o1,f1,l1⟩:=T2.out.out 1
 have o1:w2.cell? ⟨w.heap.size+1+1,1,none⟩=some (.bool false):=o1
 have l1:w2.cell? ⟨w.heap.size,1,none⟩=some (.bool x.crit):=l1
 have m2:=T2.out.lt
 obtain ⟨w3,hw3⟩:∃ W,W=(w2.setCell ⟨w.heap.size+1+1,1,none⟩ (.bool x.crit)):=⟨_,rfl⟩
 have T3:Hid (XPQ w w3 #[.int .i64 x.id,.bool x.crit,.slice a1 n1 c1] (fun _=>True) #[.int .i64 x.id,.bool x.crit,.slice none 0 0]):=by rw [hw3]; exact (T2.out.set 1 _ rfl)
 have HW3:Hid (_=_):=hw3
 clear hw3
 go_upto_region 4 with fail
 rw [← HW3.out]
 clear HW3 o1 f1 l1 m2 T2
 obtain ⟨_,_,l2⟩:=T3.out.out 2
 have l2:w3.cell? ⟨w.heap.size,2,none⟩=some (.slice a1 n1 c1):=l2
 have m3:=T3.out.lt
 go_wp2_with fail
 refine (toByteS_o a1 n1 c1 x.val _ ((HK.out.kept T3.out.below).r1) HZ.out).mono ?_
 rintro e w4 ⟨p1,rfl,hp,hb⟩
 have T4:Hid (XPQ w w4 #[.int .i64 x.id,.bool x.crit,.slice a1 n1 c1] (fun W=>Keeps (w.heap.size+3) W (fun W=>RowO w.heap.size W p1 n1 x.val)) #[.int .i64 x.id,.bool x.crit,.slice none 0 0]):=(T3.out.on hb).more (stab_keeps _ _) ((hp.map fun _ q=>q.lo (by omega)).mono (by omega))
 clear hb hp T3 l2 m3
 obtain ⟨o2,f2,l2⟩:=T4.out.out 2
 have o2:w4.cell? ⟨w.heap.size+1+1,2,none⟩=some (.slice none 0 0):=o2
 have l2:w4.cell? ⟨w.heap.size,2,none⟩=some (.slice a1 n1 c1):=l2
 have m4:=T4.out.lt
 obtain ⟨w5,hw5⟩:∃ W,W=(w4.setCell ⟨w.heap.size+1+1,2,none⟩ (.slice p1 n1 n1)):=⟨_,rfl⟩
 have T5:Hid (XPQ w w5 #[.int .i64 x.id,.bool x.crit,.slice a1 n1 c1] (fun W=>Keeps (w.heap.size+3) W (fun W=>RowO w.heap.size W p1 n1 x.val)) #[.int .i64 x.id,.bool x.crit,.slice p1 n1 n1]):=by rw [hw5]; exact (T4.out.set 2 _ rfl)
 have HW5:Hid (_=_):=hw5
 clear hw5
 go_upto_region 5 with fail
 rw [← HW5.out]
 clear HW5 o2 f2 l2 m4 T4
 have HMX:Hid (XPR w ⟨a1,n1,c1⟩ x):=HK.out
 clear HK
 have hlF:=T5.out.lt
 rename_i K0 hK0
 apply wp_region_lit
 refine wpList_load_row rfl 113 _ rfl (w.heap.size+1+1) rfl 113 #[.int .i64 x.id,.bool x.crit,.slice p1 n1 n1] (0,0) _ T5.out.b2 Tryz.underlying113 rfl infoSizeXP ?_
 refine wpList_store_rowTo rfl 113 _ _ rfl rfl (w.heap.size+1) #[.int .i64 x.id,.bool x.crit,.slice p1 n1 n1] rfl rfl 113 #[.int .i64 0,.bool false,.slice none 0 0] T5.out.b1 infoSizeXP rfl (by simp [Value.oneCell']) ?_
 apply wpList_nil
 refine hK0 _ _ ?_
 clear hK0 K0
 have hrow:(w5.setRow (w.heap.size+1) #[.int .i64 x.id,.bool x.crit,.slice p1 n1 n1]).heap[w.heap.size+1]? = some (.cells #[.int .i64 x.id,.bool x.crit,.slice p1 n1 n1] 113 (0,0)):=setRow_heap _ _ _ _ _ _ T5.out.b1
 have hoth:∀ l,l≠w.heap.size+1→(w5.setRow (w.heap.size+1) #[.int .i64 x.id,.bool x.crit,.slice p1 n1 n1]).heap[l]? = w5.heap[l]?:=fun l hl=>setRow_other _ _ _ _ hl
 have hsz:(w5.setRow (w.heap.size+1) #[.int .i64 x.id,.bool x.crit,.slice p1 n1 n1]).heap.size=w5.heap.size:=by simp
 have hbF:Below w.heap.size w (w5.setRow (w.heap.size+1) #[.int .i64 x.id,.bool x.crit,.slice p1 n1 n1]):=⟨T5.out.below.os,T5.out.below.tape,T5.out.below.output,by rw [hsz]; exact T5.out.below.size,fun l hl=>(hoth l (by omega)).trans (T5.out.below.block l hl)⟩
 have hr:=T5.out.st w5 (w5.setRow (w.heap.size+1) #[.int .i64 x.id,.bool x.crit,.slice p1 n1 n1]) (fun l hl hl2=>hoth l (by omega)) (Nat.le_of_eq hsz.symm) T5.out.r
 go_wp2
 try simp only [Exit.inBlock,Exit.then]
 have k1:Keeps (w.heap.size+3) _ (fun W=>RowO w.heap.size W p1 n1 x.val):=hr
 refine bodyPost_ret (results_cell_row rfl _ _ (w.heap.size+1) 113 _ (0,0) _ rfl hrow Tryz.underlying113 rfl infoSizeXP) rfl ⟨⟨p1,n1,n1⟩,rfl,rfl,Keeps.mono (k1.map fun W q=>?_) (by omega),hbF⟩
 have h1:=q
 exact ⟨⟨h1.row,HMX.out.m1,nil_row h1.row⟩,h1.fr⟩
structure XPsO (lo:Nat)(W:World)(a:Option Addr)(n:Nat)(xs:List XP):Prop where
 row:XPs W a n xs
 fr:NR 3 2 1 lo W.heap.size W a n
theorem XPsO.lo {l l':Nat}{W:World}{a:Option Addr}{n:Nat}{xs:List XP}(h:XPsO l W a n xs)(hl:l'≤l):XPsO l' W a n xs:=⟨h.row,h.fr.mono hl (Nat.le_refl _)⟩
def XPPreO (w:World)(g k:Nat)(xs:List XP):Prop:=∀ j,j<k→∃ s:XPS,XPC w g (j * 3) s (xs.getD j default)∧Keeps (g+1) w (fun W=>XPO g W s (xs.getD j default))
theorem XPPreO.kept {w w':World}{g k:Nat}{xs:List XP}(h:XPPreO w g k xs)(hg:g<w.heap.size)(hb:Below w.heap.size w w'):XPPreO w' g k xs:=fun j hj=>by
 obtain ⟨s,h3,h4⟩:=h j hj
 exact ⟨s,h3.of (fun i=>hb.cell (p:=⟨g,i,none⟩) hg),stab_keeps _ _ w w' (fun l _ hl=>hb.block l hl) hb.size h4⟩
theorem toExtS_o (a:Option Addr)(n cap:Nat)(xs:List XP)(w:World)(h:XPs w a n xs)(hn:n≤1048576)(hz:∀ k,k<n→XPZ (xs.getD k default)) :
  Calls Tryz.prog 42 #[.slice a n cap] w fun e w'=>∃ a',e=.returned (.slice a' n n)∧Keeps w.heap.size w' (fun W=>XPsO w.heap.size W a' n xs)∧Below w.heap.size w w':=by
 obtain ⟨i0,hi,hz0,hz1,hz2⟩:=info_parts Tryz.infoXP
 have HK:Hid (XPs w a n xs):=h
 have HZ:Hid (∀ k,k<n→XPZ (xs.getD k default)):=hz
 have hlen:Hid (xs.length=n):=h.len
 clear h hz
 go_enter Tryz.func42,Tryz.ntmps42
 go_wp2_with (first | (at_make; refine wpList_make_full _ rfl _ _ 44 rfl w.heap.size 113 i0 _ 3 Tryz.underlying44 hi hz0 hz1 _ _ _ _ n rfl rfl rfl rfl (by rw [hz2]; omega) (by unfold maxLen; omega) (by exact Nat.le_refl _) ?_; intro w1 hown hgrow))
 have hbl:Below w.heap.size w w1:=(Below.refl _ _).grown hgrow (Nat.le_refl _) (by simp)
 clear hgrow hi hz0 hz1 hz2
 go_loopw [4] (fun i wr=>∃ k:Nat,k≤n∧i=.int .i64 k∧Hid (∃ vs,wr.ownsRow w.heap.size 113 3 (.slice (some ⟨w.heap.size,0,none⟩) n n) n vs)∧Hid (XPPreO wr w.heap.size k xs)∧Below w.heap.size w wr) (fun i _=>n - (intOf i).toNat)
 case atStart=>exact ⟨0,Nat.zero_le _,rfl,⟨_,hown⟩,fun j hj=>absurd hj (Nat.not_lt_zero _),hbl⟩
 case round =>
  obtain ⟨k,hk,rfl,HOR,HPRE,hbr⟩:=hrel
  obtain ⟨vs,hor⟩:=HOR.out
  have hgl:=(hor.lt _ rfl).2
  have HOV:Hid (_):=hor
  clear HOR hor hown hbl
  by_cases hkn:k<n
  ·obtain ⟨b,off,⟨a1,n1,c1⟩,rfl,hlb,hc,hp⟩:=HK.out.get k hkn
   have hgp:=HZ.out k hkn
   obtain ⟨y,hy⟩:∃ y,y=xs.getD k default:=⟨_,rfl⟩
   rw [← hy] at hc hp hgp
   have HY:Hid (y=xs.getD k default):=hy
   have HG:Hid (XPZ y):=hgp
   replace hc:=hc.of (w':=wr) (fun i=>hbr.cell (p:=⟨b,i,none⟩) hlb)
   have u0:wr.cell? ⟨b,off+k * 3,none⟩=some (.int .i64 y.id):=hc.c0
   have u1:wr.cell? ⟨b,off+k * 3+1,none⟩=some (.bool y.crit):=hc.c1
   have u2:wr.cell? ⟨b,off+k * 3+2,none⟩=some (.slice a1 n1 c1):=hc.c2
   have HP:Hid (XPR wr ⟨a1,n1,c1⟩ y):=hp.kept hbr
   have hkni:(k:Int)<(n:Int):=by omega
   have hs:=hbr.size
   clear hc hy hp hgp
   go_wp2_with fail
   refine (toExt_o ⟨a1,n1,c1⟩ y _ HP.out HG.out).mono ?_
   rintro e w2 ⟨s,rfl,_,hp2,hb2⟩
   have hor2:w2.ownsRow w.heap.size 113 3 (.slice (some ⟨w.heap.size,0,none⟩) n n) n vs:=ownsRow_below HOV.out hb2
   have hs2:=hb2.size
   have fr:∀ j,w2.frozen? ⟨w.heap.size,j,none⟩=false:=fun j=>hor2.frozenAt j
   have hvl:vs.length=n * 3:=hor2.1
   have cx:∀ j,j<n * 3→∃ z,w2.cell? ⟨w.heap.size,j,none⟩=some z:=fun j hj=>⟨_,(hor2.cellAt j hj).trans (List.getElem?_eq_getElem (by omega))⟩
   obtain ⟨z0,x0⟩:=cx (k * 3) (by omega)
   obtain ⟨z1,x1⟩:=cx (k * 3+1) (by omega)
   obtain ⟨z2,x2⟩:=cx (k * 3+2) (by omega)
   have f0:=fr (k * 3)
   have f1:=fr (k * 3+1)
   have f2:=fr (k * 3+2)
   have hS:=putXP_is hor2 k hkn s y
   have hP:XPPreO (putXP w2 w.heap.size (k * 3) (.int .i64 y.id) (.bool y.crit) (.slice s.a1 s.n1 s.c1)) w.heap.size (k+1) xs:=by
    intro j hj
    by_cases hjk:j=k
    ·subst hjk
     rw [← HY.out]
     exact ⟨s,hS.cells,stab_keeps _ _ w2 _ (fun l hl _=>hS.other l (by omega)) (Nat.le_of_eq hS.size.symm) ((hp2.map fun _ q=>q.lo (by omega)).mono (by omega))⟩
    ·obtain ⟨r,q2,q3⟩:=(HPRE.out.kept hgl hb2) j (by omega)
     have hx:=hS.old
     exact ⟨r,⟨(hx _ (by omega) (by omega)).trans q2.c0,(hx _ (by omega) (by omega)).trans q2.c1,(hx _ (by omega) (by omega)).trans q2.c2⟩,stab_keeps _ _ w2 _ (fun l hl _=>hS.other l (by omega)) (Nat.le_of_eq hS.size.symm) q3⟩
   have hB2:=hbr.trans (hb2.mono hs)
   have hB4:Below w.heap.size w (putXP w2 w.heap.size (k * 3) (.int .i64 y.id) (.bool y.crit) (.slice s.a1 s.n1 s.c1)):=putXP_below hB2 _ _ (Nat.le_refl _) _ _ _
   have FIN:Hid (_∧_∧_):=⟨hS.own,hP,hB4⟩
   have hgl2:w.heap.size<w2.heap.size:=by omega
   clear fr cx hS hP hB4 hB2 hor2 hp2 hb2 hvl HPRE HOV HP HK
   unfold XPv
   go_wp2
   go_roundw
   case rel=>exact ⟨k+1,by omega,by go_num,FIN.out.1,FIN.out.2.1,FIN.out.2.2⟩
   case measure=>simp [intOf]; omega
  ·obtain rfl:n=k:=by omega
   have HX:Hid (n≤9223372036854775807):=HK.out.max
   have HZF:Hid (∀ k,k<n→XPZ (xs.getD k default)):=HZ.out
   clear HK
   go_wp2
   go_ret
   refine ⟨_,rfl,⟨fun W=>XPPreO W w.heap.size n xs∧w.heap.size<W.heap.size∧∃ vs,W.ownsRow w.heap.size 113 3 (.slice (some ⟨w.heap.size,0,none⟩) n n) n vs,?_,⟨HPRE.out,hgl,⟨_,HOV.out⟩⟩,?_⟩,hbr⟩
   ·intro W W' e s r
    have hbk:=e w.heap.size (Nat.le_refl _) r.2.1
    refine ⟨fun j hj=>?_,Nat.lt_of_lt_of_le r.2.1 s,?_⟩
    ·obtain ⟨q,h1,h2⟩:=r.1 j hj
     exact ⟨q,h1.of (fun i=>by simp [World.cell?,hbk]),stab_keeps _ _ W W' (fun l hl hl2=>e l (by omega) hl2) s h2⟩
    ·obtain ⟨vs,hv⟩:=r.2.2
     exact ⟨vs,own_same hv hbk⟩
   ·intro W r
    obtain ⟨vs,hv⟩:=r.2.2
    refine ⟨⟨hlen.out,HX.out,fun k hk=>?_⟩,nr_owns hv (fun g e j hj=>?_)⟩
    ·obtain ⟨q,h1,h2⟩:=r.1 k hk
     exact ⟨w.heap.size,0,q,rfl,r.2.1,by rw [Nat.zero_add]; exact h1,h2.now.r⟩
    ·simp only [Option.some.injEq,Addr.mk.injEq,and_true] at e
     subst e
     obtain ⟨q,h1,h2⟩:=r.1 j hj
     refine ⟨fun i hi hq=>?_,q.a1,q.n1,q.c1,h1.c2,?_,h2.now.f1⟩
     ·match i,hi,hq with
      | 0,_,_=>exact ⟨_,h1.c0,isF.i _ _⟩
      | 1,_,_=>exact ⟨_,h1.c1,isF.b _⟩
      | 2,_,hq=>exact absurd rfl hq
     ·have:=HZF.out j hj
      rw [← h2.now.r.r1.len]
      exact this
open Go.RowKit
theorem markB_fr (lo hi:Nat)(a:Option Addr)(n cap k:Nat)(w:World)(h:FR 1 lo hi w a n)(hn:n≤1048576)(hk:k≤100000000000000000) :
  Calls Tryz.prog 15 #[.slice a n cap,.int .i64 k] w (MkF lo hi w k (1 * n)):=by
 have H0:Hid (FR 1 lo hi w a n):=h
 clear h
 go_enter Tryz.func15,Tryz.ntmps15
 go_wp2
 go_loopw [1,5] (fun kk i wr=>∃ j K:Nat,j≤n∧K=k+1 * j∧i=.int .i64 j∧kk=.int .i64 K∧Hid (Touch lo hi w wr)∧Hid (Sh w wr)) (fun _ i _=>n - (intOf i).toNat)
 case atStart=>exact ⟨0,k,Nat.zero_le _,rfl,rfl,rfl,Touch.of_below (Below.refl _ _),Sh.refl _⟩
 case round =>
  obtain ⟨j,K,hj,hK,rfl,rfl,HT,HS⟩:=hrel
  by_cases hlt:j<n
  ·obtain ⟨g,rfl,hg1,hg2,hg3,hc⟩:=(H0.out.sh HS.out).at_ (by omega)
   obtain ⟨⟨y0,hy0⟩,hf0,_⟩:=hc (j) (by omega)
   have hlti:(j:Int)<(n:Int):=by omega
   have hKb:K≤200000000000000000:=by omega
   have HSN:Hid (∀ k0 m0,Sh w (wr.setCell ⟨g,j,none⟩ (.int k0 m0))):=fun k0 m0=>by
    have s0:=HS.out
    obtain ⟨g0,e0,_,_,_,hc0⟩:=(H0.out.sh s0).at_ (by omega)
    simp only [Option.some.injEq,Addr.mk.injEq,and_true] at e0
    subst e0
    have s1:=s0.trans ((hc0 (j) (by omega)).2.2 _ (isF.i k0 m0))
    exact s1
   have HTN:Hid (∀ k0 m0,Touch lo hi w (wr.setCell ⟨g,j,none⟩ (.int k0 m0))):=fun k0 m0=>(HT.out.trans (touch_setF _ g (j) _ hg1 hg2))
   have HKK:Hid (K=k+1 * j):=hK
   clear hc hK HT HS
   go_wp2
   go_roundw
   case rel=>exact ⟨j+1,K+1,by omega,by have:=HKK.out; omega,by go_num,by go_num,HTN.out _ _ ,HSN.out _ _ ⟩
   case measure=>simp [intOf]; omega
  ·obtain rfl:j=n:=by omega
   have hge:¬ ((j:Int)<(j:Int)):=by omega
   have HKK:Hid (K=k+1 * j):=hK
   clear hK
   go_wp2
   go_ret
   exact ⟨K,by have:=HKK.out; omega,by have:=HKK.out; omega,rfl,HT.out,HS.out⟩
theorem markI_fr (lo hi:Nat)(a:Option Addr)(n cap k:Nat)(w:World)(h:FR 1 lo hi w a n)(hn:n≤1048576)(hk:k≤100000000000000000) :
  Calls Tryz.prog 55 #[.slice a n cap,.int .i64 k] w (MkF lo hi w k (1 * n)):=by
 have H0:Hid (FR 1 lo hi w a n):=h
 clear h
 go_enter Tryz.func55,Tryz.ntmps55
 go_wp2
 go_loopw [1,5] (fun kk i wr=>∃ j K:Nat,j≤n∧K=k+1 * j∧i=.int .i64 j∧kk=.int .i64 K∧Hid (Touch lo hi w wr)∧Hid (Sh w wr)) (fun _ i _=>n - (intOf i).toNat)
 case atStart=>exact ⟨0,k,Nat.zero_le _,rfl,rfl,rfl,Touch.of_below (Below.refl _ _),Sh.refl _⟩
 case round =>
  obtain ⟨j,K,hj,hK,rfl,rfl,HT,HS⟩:=hrel
  by_cases hlt:j<n
  ·obtain ⟨g,rfl,hg1,hg2,hg3,hc⟩:=(H0.out.sh HS.out).at_ (by omega)
   obtain ⟨⟨y0,hy0⟩,hf0,_⟩:=hc (j) (by omega)
   have hlti:(j:Int)<(n:Int):=by omega
   have hKb:K≤200000000000000000:=by omega
   have HSN:Hid (∀ k0 m0,Sh w (wr.setCell ⟨g,j,none⟩ (.int k0 m0))):=fun k0 m0=>by
    have s0:=HS.out
    obtain ⟨g0,e0,_,_,_,hc0⟩:=(H0.out.sh s0).at_ (by omega)
    simp only [Option.some.injEq,Addr.mk.injEq,and_true] at e0
    subst e0
    have s1:=s0.trans ((hc0 (j) (by omega)).2.2 _ (isF.i k0 m0))
    exact s1
   have HTN:Hid (∀ k0 m0,Touch lo hi w (wr.setCell ⟨g,j,none⟩ (.int k0 m0))):=fun k0 m0=>(HT.out.trans (touch_setF _ g (j) _ hg1 hg2))
   have HKK:Hid (K=k+1 * j):=hK
   clear hc hK HT HS
   go_wp2
   go_roundw
   case rel=>exact ⟨j+1,K+1,by omega,by have:=HKK.out; omega,by go_num,by go_num,HTN.out _ _ ,HSN.out _ _ ⟩
   case measure=>simp [intOf]; omega
  ·obtain rfl:j=n:=by omega
   have hge:¬ ((j:Int)<(j:Int)):=by omega
   have HKK:Hid (K=k+1 * j):=hK
   clear hK
   go_wp2
   go_ret
   exact ⟨K,by have:=HKK.out; omega,by have:=HKK.out; omega,rfl,HT.out,HS.out⟩
theorem markM_fr (lo hi:Nat)(a:Option Addr)(n cap k:Nat)(w:World)(h:FR 2 lo hi w a n)(hn:n≤1048576)(hk:k≤100000000000000000) :
  Calls Tryz.prog 56 #[.slice a n cap,.int .i64 k] w (MkF lo hi w k (2 * n)):=by
 have H0:Hid (FR 2 lo hi w a n):=h
 clear h
 go_enter Tryz.func56,Tryz.ntmps56
 go_wp2
 go_loopw [1,5] (fun kk i wr=>∃ j K:Nat,j≤n∧K=k+2 * j∧i=.int .i64 j∧kk=.int .i64 K∧Hid (Touch lo hi w wr)∧Hid (Sh w wr)) (fun _ i _=>n - (intOf i).toNat)
 case atStart=>exact ⟨0,k,Nat.zero_le _,rfl,rfl,rfl,Touch.of_below (Below.refl _ _),Sh.refl _⟩
 case round =>
  obtain ⟨j,K,hj,hK,rfl,rfl,HT,HS⟩:=hrel
  by_cases hlt:j<n
  ·obtain ⟨g,rfl,hg1,hg2,hg3,hc⟩:=(H0.out.sh HS.out).at_ (by omega)
   obtain ⟨⟨y0,hy0⟩,hf0,_⟩:=hc (j * 2) (by omega)
   obtain ⟨⟨y1,hy1⟩,hf1,_⟩:=hc (j * 2+1) (by omega)
   have hlti:(j:Int)<(n:Int):=by omega
   have hKb:K≤200000000000000000:=by omega
   have HSN:Hid (∀ k0 m0 k1 m1,Sh w ((wr.setCell ⟨g,j * 2,none⟩ (.int k0 m0)).setCell ⟨g,j * 2+1,none⟩ (.int k1 m1))):=fun k0 m0 k1 m1=>by
    have s0:=HS.out
    obtain ⟨g0,e0,_,_,_,hc0⟩:=(H0.out.sh s0).at_ (by omega)
    simp only [Option.some.injEq,Addr.mk.injEq,and_true] at e0
    subst e0
    have s1:=s0.trans ((hc0 (j * 2) (by omega)).2.2 _ (isF.i k0 m0))
    obtain ⟨g1,e1,_,_,_,hc1⟩:=(H0.out.sh s1).at_ (by omega)
    simp only [Option.some.injEq,Addr.mk.injEq,and_true] at e1
    subst e1
    have s2:=s1.trans ((hc1 (j * 2+1) (by omega)).2.2 _ (isF.i k1 m1))
    exact s2
   have HTN:Hid (∀ k0 m0 k1 m1,Touch lo hi w ((wr.setCell ⟨g,j * 2,none⟩ (.int k0 m0)).setCell ⟨g,j * 2+1,none⟩ (.int k1 m1))):=fun k0 m0 k1 m1=>((HT.out.trans (touch_setF _ g (j * 2) _ hg1 hg2)).trans (touch_setF _ g (j * 2+1) _ hg1 hg2))
   have HKK:Hid (K=k+2 * j):=hK
   clear hc hK HT HS
   go_wp2
   go_roundw
   case rel=>exact ⟨j+1,K+1+1,by omega,by have:=HKK.out; omega,by go_num,by go_num,HTN.out _ _ _ _ ,HSN.out _ _ _ _ ⟩
   case measure=>simp [intOf]; omega
  ·obtain rfl:j=n:=by omega
   have hge:¬ ((j:Int)<(j:Int)):=by omega
   have HKK:Hid (K=k+2 * j):=hK
   clear hK
   go_wp2
   go_ret
   exact ⟨K,by have:=HKK.out; omega,by have:=HKK.out; omega,rfl,HT.out,HS.out⟩
end Go.Proofs.YtmdfbnlgfhjnoaaGreatDoor
