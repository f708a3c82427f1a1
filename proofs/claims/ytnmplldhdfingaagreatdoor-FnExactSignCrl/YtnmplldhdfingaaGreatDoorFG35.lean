import Derived.Test.YtnmplldhdfingaaGreatDoorFG34
set_option maxRecDepth 10000
set_option maxHeartbeats 8000000
set_option linter.unusedVariables false
namespace Go.Proofs.YtnmplldhdfingaaGreatDoor
open Go.RowKit Go.Sort
theorem cloneGone_any (a:Option Addr)(n cap:Nat)(x:GP)(w:World)(h:Pts w a n x.parts)(hnil:a=none→cap=0)(hn:n≤1048576) :
  Calls Tryz.prog 74 #[gov a n cap x] w fun e w'=>∃ a' cap',e=.returned (gov a' n cap' x)∧w'.ownsRow w.heap.size 132 2 (.slice a' n cap') n (flPt x.parts)∧(a'=none→cap'=0)∧Below w.heap.size w w':=by
 unfold gov
 obtain ⟨W0,hW0⟩:∃ W0,W0=(w.alloc (.cells #[.slice a n cap,.int .i64 x.ser,.int .i64 x.tm,.int .i64 x.rs] 74)).alloc (.cells #[.slice none 0 0,.int .i64 0,.int .i64 0,.int .i64 0] 74):=⟨_,rfl⟩
 have hB0:Below w.heap.size w W0:=by rw [hW0]; exact two_below _ _ _
 have hS0:W0.heap.size=w.heap.size+2:=by rw [hW0]; simp
 have b0:=two_blocks w (.cells #[.slice a n cap,.int .i64 x.ser,.int .i64 x.tm,.int .i64 x.rs] 74) (.cells #[.slice none 0 0,.int .i64 0,.int .i64 0,.int .i64 0] 74)
 rw [← hW0] at b0
 have x0:W0.cell? ⟨w.heap.size,0,none⟩=some (.slice a n cap):=qk b0.1 rfl
 have M:=cloneName_any a n cap x.parts W0 (h.kept hB0) hnil hn
 have HW:Hid (_=_):=hW0
 clear hW0 h
 go_enter Tryz.func74,Tryz.ntmps74
 go_upto_region 1 with fail
 rw [← HW.out]
 clear HW
 go_wp2_with fail
 refine M.mono ?_
 rintro e w1 ⟨a1,c1,rfl,ho,hc1,hb1⟩
 have hs1:=hb1.size
 have p0:w1.heap[w.heap.size]? = _:=(hb1.block w.heap.size (by omega)).trans b0.1
 have p1:w1.heap[w.heap.size+1]? = _:=(hb1.block (w.heap.size+1) (by omega)).trans b0.2
 have y0:w1.cell? ⟨w.heap.size,0,none⟩=some (.slice a n cap):=qk p0 rfl
 have f0:w1.frozen? ⟨w.heap.size,0,none⟩=false:=frozen_of_row w1 w.heap.size 0 _ 74 p0
 obtain ⟨w2,hw2⟩:∃ w2,w2=w1.setCell ⟨w.heap.size,0,none⟩ (.slice a1 n c1):=⟨_,rfl⟩
 have t2:TouchS (fun i=>i=w.heap.size) w1 w2:=by rw [hw2]; exact TouchS.set _ _ _ _ rfl
 have q0:w2.heap[w.heap.size]? = some (.cells #[.slice a1 n c1,.int .i64 x.ser,.int .i64 x.tm,.int .i64 x.rs] 74 (0,0)):=by rw [hw2]; exact heap_setCell_same w1 w.heap.size 0 _ 74 (.slice a1 n c1) p0
 have q1:w2.heap[w.heap.size+1]? = some (.cells #[.slice none 0 0,.int .i64 0,.int .i64 0,.int .i64 0] 74 (0,0)):=(t2.block _ (by omega) (by omega)).trans p1
 have o2:w2.ownsRow (w.heap.size+4) 132 2 (.slice a1 n c1) n (flPt x.parts):=ownsRow_keepS (by rw [show w.heap.size+4=W0.heap.size+2 by omega]; exact ho) t2 (fun g _ hg q=>by omega)
 have hBz:=hB0.trans (hb1.mono hB0.size)
 have B2:Below w.heap.size w w2:=⟨t2.os.trans hBz.os,t2.tape.trans hBz.tape,t2.output.trans hBz.output,Nat.le_trans hBz.size t2.size,fun l hl=>(t2.block l (by have:=hBz.size; omega) (by omega)).trans (hBz.block l hl)⟩
 have hz2:w.heap.size+2≤w2.heap.size:=Nat.le_trans (by omega) t2.size
 have HW2:Hid (_=_):=hw2
 clear M ho b0 p0 p1 t2 hw2 hBz x0
 go_upto_region 2 with fail
 rw [← HW2.out]
 clear HW2 y0 f0 hb1 hs1
 have d0:w2.cell? ⟨w.heap.size,0,none⟩=some (.slice a1 n c1):=qk q0 rfl
 have d1:w2.cell? ⟨w.heap.size,1,none⟩=some (.int .i64 x.ser):=qk q0 rfl
 have d2:w2.cell? ⟨w.heap.size,2,none⟩=some (.int .i64 x.tm):=qk q0 rfl
 have d3:w2.cell? ⟨w.heap.size,3,none⟩=some (.int .i64 x.rs):=qk q0 rfl
 have r0:w2.cell? ⟨w.heap.size+1,0,none⟩=some (.slice none 0 0):=qk q1 rfl
 have r1:w2.cell? ⟨w.heap.size+1,1,none⟩=some (.int .i64 0):=qk q1 rfl
 have r2:w2.cell? ⟨w.heap.size+1,2,none⟩=some (.int .i64 0):=qk q1 rfl
 have r3:w2.cell? ⟨w.heap.size+1,3,none⟩=some (.int .i64 0):=qk q1 rfl
 have f0:w2.frozen? ⟨w.heap.size+1,0,none⟩=false:=frozen_of_row w2 (w.heap.size+1) 0 _ 74 q1
 have f1:w2.frozen? ⟨w.heap.size+1,1,none⟩=false:=frozen_of_row w2 (w.heap.size+1) 1 _ 74 q1
 have f2:w2.frozen? ⟨w.heap.size+1,2,none⟩=false:=frozen_of_row w2 (w.heap.size+1) 2 _ 74 q1
 have f3:w2.frozen? ⟨w.heap.size+1,3,none⟩=false:=frozen_of_row w2 (w.heap.size+1) 3 _ 74 q1
 have HQ:Hid (_=_):=put4_row q1 (.slice a1 n c1) (.int .i64 x.ser) (.int .i64 x.tm) (.int .i64 x.rs)
 have HO:Hid ((put4 w2 (w.heap.size+1) 0 (.slice a1 n c1) (.int .i64 x.ser) (.int .i64 x.tm) (.int .i64 x.rs)).ownsRow w.heap.size 132 2 (.slice a1 n c1) n (flPt x.parts)):=ownsRow_lower (ownsRow_keepS (S:=fun i=>i=w.heap.size+1) o2 ⟨by simp [put4,World.setCell],by simp [put4,World.setCell],by simp [put4,World.setCell],by simp [put4],fun l _ hl=>put4_other _ _ _ _ hl _ _ _ _⟩ (fun g _ hg q=>by omega)) (by omega)
 have HB:Hid (Below w.heap.size w (put4 w2 (w.heap.size+1) 0 (.slice a1 n c1) (.int .i64 x.ser) (.int .i64 x.tm) (.int .i64 x.rs))):=⟨B2.os,B2.tape,B2.output,by simpa [put4,World.setCell] using B2.size,fun l hl=>(put4_other _ _ _ _ (by omega) _ _ _ _).trans (B2.block l hl)⟩
 clear q0 q1 o2 B2
 go_wp2
 try simp only [Exit.inBlock,Exit.then]
 exact bodyPost_ret (results_go rfl _ (w.heap.size+1) rfl _ _ _ _ _ HQ.out) rfl ⟨a1,c1,rfl,HO.out,hc1,HB.out⟩
open Go.RowKit Go.Sort
theorem ownsRow_clash {w:World}{B B' t t' s s' n n' c c' g:Nat}{a a':Option Addr}{vs vs':List Value}(h:w.ownsRow B t s (.slice a n c) n vs)(h':w.ownsRow B' t' s' (.slice a' n' c') n' vs')(ht:t≠t')(e:a=some ⟨g,0,none⟩)(e':a'=some ⟨g,0,none⟩):False:=by
 rcases h.2 with ⟨z,_⟩ | ⟨g1,k1,cur,y1,_,hg1,_⟩
 ·simp only [Value.slice.injEq] at z; rw [e] at z; simp at z
 ·rcases h'.2 with ⟨z,_⟩ | ⟨g3,k3,cur3,y3,_,hg3,_⟩
  ·simp only [Value.slice.injEq] at z; rw [e'] at z; simp at z
  ·simp only [Value.slice.injEq] at y1 y3
   have e1:=y1.1.symm.trans e
   have e3:=y3.1.symm.trans e'
   simp only [Option.some.injEq,Addr.mk.injEq] at e1 e3
   rw [e1.1] at hg1
   rw [e3.1,hg1] at hg3
   simp only [Option.some.injEq,Obj.cells.injEq] at hg3
   exact ht hg3.2.1
theorem ownsRow_succG {w:World}{B e s k:Nat}{v:Value}{xs:List Value}(h:w.ownsRow B e s v (k+1) xs):∃ g c,v=.slice (some ⟨g,0,none⟩) (k+1) c:=by
 rcases h.2 with ⟨_,h0⟩ | ⟨g,cap,cur,hv,_⟩
 ·omega
 ·exact ⟨g,cap,hv⟩
def flG (xs:List GP)(sl:Nat→Sl):Nat→List Value
 | 0=>[]
 | k+1=>flG xs sl k++[.slice (sl k).1 (sl k).2.1 (sl k).2.2,.int .i64 (xs.getD k default).ser,.int .i64 (xs.getD k default).tm,.int .i64 (xs.getD k default).rs]
theorem flG_congr (xs:List GP){sl sm:Nat→Sl}:∀ k,(∀ j,j<k→sl j=sm j)→flG xs sl k=flG xs sm k:=by
 intro k
 induction k with
 | zero=>intro _; rfl
 | succ k ih=>intro h; simp only [flG]; rw [ih (fun j hj=>h j (by omega)),h k (by omega)]
structure EachQ (B:Nat)(w:World)(a:Option Addr)(k c:Nat)(xs:List GP)(sl:Nat→Sl):Prop where
 row:w.ownsRow B 74 4 (.slice a k c) k (flG xs sl k)
 each:∀ j,j<k→w.ownsRow B 132 2 (.slice (sl j).1 (sl j).2.1 (sl j).2.2) (sl j).2.1 (flPt (xs.getD j default).parts)
 apart:∀ i j,i<j→j<k→∀ g,(sl i).1=some ⟨g,0,none⟩→(sl j).1≠some ⟨g,0,none⟩
theorem EachQ.empty (B:Nat)(w:World)(xs:List GP)(sl:Nat→Sl):EachQ B w none 0 0 xs sl:=⟨World.ownsRow_nil _ _ _ _,fun j hj=>absurd hj (Nat.not_lt_zero _),fun i j _ hj=>absurd hj (Nat.not_lt_zero _)⟩
theorem EachQ.below {B:Nat}{w w':World}{a:Option Addr}{k c:Nat}{xs:List GP}{sl:Nat→Sl}(h:EachQ B w a k c xs sl)(hb:Below w.heap.size w w'):EachQ B w' a k c xs sl:=⟨ownsRow_below h.row hb,fun j hj=>ownsRow_below (h.each j hj) hb,h.apart⟩
theorem EachQ.appended {B:Nat}{w w7:World}{a:Option Addr}{k c:Nat}{xs:List GP}{sl:Nat→Sl}(h:EachQ B w a k c xs sl){a2:Option Addr}{n2 c2:Nat}(hn:w.ownsRow B 132 2 (.slice a2 n2 c2) n2 (flPt (xs.getD k default).parts))(hf:∀ j,j<k→∀ g,(sl j).1=some ⟨g,0,none⟩→a2≠some ⟨g,0,none⟩)
  {a7:Option Addr} {c7:Nat} (hv:w7.ownsRow B 74 4 (.slice a7 (k+1) c7) (k+1) (flG xs sl k++[.slice a2 n2 c2,.int .i64 (xs.getD k default).ser,.int .i64 (xs.getD k default).tm,.int .i64 (xs.getD k default).rs])) (hg:w.grownBy w7 (Value.slice a k c).ownBlock):EachQ B w7 a7 (k+1) c7 xs (fun j=>if j=k then (a2,n2,c2) else sl j):=by
 have ht:TouchS (fun i=>a=some ⟨i,0,none⟩) w w7:=touchS_grown hg (ownsRow_ownBlock h.row)
 refine ⟨?_,fun j hj=>?_,fun i j hij hj g=>?_⟩
 ·simp only [flG,if_true]
  rw [flG_congr xs (sl:=fun j=>if j=k then (a2,n2,c2) else sl j) (sm:=sl) k (fun j hj=>by simp only [if_neg (show ¬ j=k by omega)])]
  exact hv
 ·by_cases e:j=k
  ·subst e
   simp only [if_true]
   exact ownsRow_keepS hn ht (fun g e1 _ e2=>ownsRow_clash hn h.row (by decide) e1 e2)
  ·simp only [if_neg e]
   exact ownsRow_keepS (h.each j (by omega)) ht (fun g e1 _ e2=>ownsRow_clash (h.each j (by omega)) h.row (by decide) e1 e2)
 ·simp only [if_neg (show ¬ i=k by omega)]
  by_cases e:j=k
  ·simp only [if_pos e]
   exact hf i (by omega) g
  ·simp only [if_neg e]
   exact h.apart i j hij (by omega) g
theorem eachGone_any (a:Option Addr)(n c:Nat)(xs:List GP)(w:World)(h:Gns w a n xs)(hn:n≤1048576)(hc0:∀ k,k<n→∀ b off an nn cn,a=some ⟨b,off,none⟩→w.cell? ⟨b,off+k * 4,none⟩=some (.slice an nn cn)→(an=none→cn=0)∧nn≤1048576) :
  Calls Tryz.prog 73 #[.slice a n c,.func (Fn.func 74) #[] #[]] w fun e w'=>∃ a' c' sl,e=.returned (.slice a' n c')∧EachQ w.heap.size w' a' n c' xs sl∧(∀ j,j<n→(sl j).2.1=(xs.getD j default).parts.length)∧Below w.heap.size w w':=by
 obtain ⟨i0,hi,hz0,hz1,hz2⟩:=info_parts Tryz.infoGone
 have H0:Hid (Gns w a n xs):=h
 have HC0:Hid (∀ k,k<n→∀ b off an nn cn,a=some ⟨b,off,none⟩→w.cell? ⟨b,off+k * 4,none⟩=some (.slice an nn cn)→(an=none→cn=0)∧nn≤1048576):=hc0
 clear h hc0
 go_enter Tryz.func73,Tryz.ntmps73
 go_wp2
 go_loopw [5,10] (fun o i wr=>∃ (k:Nat) (ao:Option Addr) (cc:Nat),k≤n∧i=.int .i64 k∧o=.slice ao k cc∧Hid (∃ sl,EachQ w.heap.size wr ao k cc xs sl∧∀ j,j<k→(sl j).2.1=(xs.getD j default).parts.length)∧Below w.heap.size w wr) (fun _ i _=>n - (intOf i).toNat)
 case atStart=>exact ⟨0,none,0,Nat.zero_le _,rfl,rfl,⟨fun _=>(none,0,0),EachQ.empty _ _ _ _,fun j hj=>absurd hj (Nat.not_lt_zero _)⟩,Below.refl _ _⟩
 case round =>
  obtain ⟨k,ao,cc,hk,rfl,rfl,HO,hbr⟩:=hrel
  have hws:=hbr.size
  by_cases hlt:k<n
  ·obtain ⟨b,off,a1,n1,d1,rfl,hlb,hc,hp⟩:=H0.out.get k hlt
   obtain ⟨hnl,hn1⟩:=HC0.out k hlt b off a1 n1 d1 rfl hc.c0
   obtain ⟨y,hy⟩:∃ y,y=xs.getD k default:=⟨_,rfl⟩
   rw [← hy] at hc hp
   have HY:Hid (y=xs.getD k default):=hy
   obtain ⟨c0,c1,c2,c3⟩:=hc.of (w':=wr) (fun i=>hbr.cell (p:=⟨b,i,none⟩) hlb)
   have hkni:(k:Int)<(n:Int):=by omega
   have hbw:b<wr.heap.size:=by omega
   have HPL:Hid (y.parts.length=n1):=hp.len
   have HRW:Hid (Pts wr a1 n1 y.parts):=hp.kept hbr
   clear hc hy hp
   have M:=fun W hb=>cloneGone_any a1 n1 d1 y W (HRW.out.kept hb) hnl hn1
   unfold gov at M
   go_wp2_with fail
   refine (M _ ((Below.refl _ _).alloc (Nat.le_refl _) _)).mono ?_
   rintro e w2 ⟨a2,cc2,rfl,ho2,hc2,hb2⟩
   have hbz:Below wr.heap.size wr (wr.alloc (.cells #[.slice a1 n1 d1,.int .i64 y.ser,.int .i64 y.tm,.int .i64 y.rs] 74)):=(Below.refl _ _).alloc (Nat.le_refl _) _
   have hb2r:Below wr.heap.size wr w2:=hbz.trans (hb2.mono hbz.size)
   have B2:Below w.heap.size w w2:=hbr.trans (hb2r.mono hws)
   have hw2:=B2.size
   obtain ⟨sl,hps,hcn⟩:=HO.out
   have HAP:Hid (∀ j,j<k→∀ g,(sl j).1=some ⟨g,0,none⟩→a2≠some ⟨g,0,none⟩):=by
    intro j hj g h1 h2
    have e1:=(ownsRow_in (hps.each j hj) g h1).2
    have e2:=(ownsRow_in ho2 g h2).1
    have e3:=hbz.size
    omega
   have hal:Below w2.heap.size w2 (w2.alloc (.cells #[.slice a2 n1 cc2,.int .i64 y.ser,.int .i64 y.tm,.int .i64 y.rs] 74)):=(Below.refl _ _).alloc (Nat.le_refl _) _
   have HQ3:Hid (EachQ w.heap.size (w2.alloc (.cells #[.slice a2 n1 cc2,.int .i64 y.ser,.int .i64 y.tm,.int .i64 y.rs] 74)) ao k cc xs sl):=(hps.below hb2r).below hal
   have HON:Hid ((w2.alloc (.cells #[.slice a2 n1 cc2,.int .i64 y.ser,.int .i64 y.tm,.int .i64 y.rs] 74)).ownsRow w.heap.size 132 2 (.slice a2 n1 cc2) n1 (flPt (xs.getD k default).parts)):=by
    show World.ownsRow _ _ _ _ _ _ _
    rw [← HY.out]
    exact ownsRow_below (ownsRow_lower ho2 (by have:=hbz.size; omega)) hal
   have B6:Below w.heap.size w (w2.alloc (.cells #[.slice a2 n1 cc2,.int .i64 y.ser,.int .i64 y.tm,.int .i64 y.rs] 74)):=B2.trans (hal.mono B2.size)
   have HCN:Hid (∀ j,j<k→(sl j).2.1=(xs.getD j default).parts.length):=hcn
   have HAPP:Hid (∀ a7 c7 w7,w7.ownsRow w.heap.size 74 4 (.slice a7 (k+1) c7) (k+1) (flG xs sl k++[.slice a2 n1 cc2,.int .i64 y.ser,.int .i64 y.tm,.int .i64 y.rs])→(w2.alloc (.cells #[.slice a2 n1 cc2,.int .i64 y.ser,.int .i64 y.tm,.int .i64 y.rs] 74)).grownBy w7 (Value.slice ao k cc).ownBlock→(∃ sl,EachQ w.heap.size w7 a7 (k+1) c7 xs sl∧∀ j,j<k+1→(sl j).2.1=(xs.getD j default).parts.length)∧Below w.heap.size w w7):=by
    intro a7 c7 w7 hv7 hg7
    rw [HY.out] at hv7
    refine ⟨⟨_,HQ3.out.appended HON.out HAP.out hv7 hg7,fun j hj=>?_⟩,B6.grown hg7 B6.size (fun kx hx=>(HQ3.out.row.lt kx hx).1)⟩
    by_cases e:j=k
    ·simp only [if_pos e]
     rw [e,← HY.out]
     exact HPL.out.symm
    ·simp only [if_neg e]
     exact HCN.out j (by omega)
   clear c0 c1 c2 c3 ho2 hb2 hb2r B2 hal hbz hps hcn HO M
   go_wp2_with (at_builtin; refine wpList_append_own _ rfl (.tmp 14) (.tmp 18) 36 rfl w.heap.size 74 i0 _ 4 48 Tryz.underlying36 hi hz0 hz1 hz2 rfl (by decide) _ k _ rfl HQ3.out.row ⟨w2.heap.size,0,none⟩ 1 1 [.slice a2 n1 cc2,.int .i64 y.ser,.int .i64 y.tm,.int .i64 y.rs] rfl rfl (World.news_of_block (heap_alloc_new w2 (.cells #[.slice a2 n1 cc2,.int .i64 y.ser,.int .i64 y.tm,.int .i64 y.rs] 74))) (by intro u hu; simp only [List.mem_cons,List.not_mem_nil,or_false] at hu; rcases hu with rfl | rfl | rfl | rfl <;> rfl) (by unfold maxLen; omega) (by omega) (by simp; omega) ?_; intro v7 w7 hv7 hg7 hs7; obtain ⟨g7,c7,rfl⟩:=ownsRow_succG hv7; have HN7:=HAPP.out _ c7 w7 hv7 hg7; have HO7:Hid (_):=HN7.1; have B7:=HN7.2; clear hv7 hg7 hs7 HN7 HAPP HQ3 HON)
   go_roundw
   case rel=>exact ⟨k+1,_,c7,by omega,by go_num,rfl,HO7,B7⟩
   case measure=>simp [intOf]; omega
  ·obtain rfl:k=n:=by omega
   go_wp2
   go_ret
   obtain ⟨sl,h1,h2⟩:=HO.out
   exact ⟨ao,cc,sl,rfl,h1,h2,hbr⟩
open Go.RowKit Go.Sort
theorem flG_len (xs:List GP)(sl:Nat→Sl):∀ k,(flG xs sl k).length=k * 4:=by
 intro k
 induction k with
 | zero=>rfl
 | succ k ih=>simp only [flG,List.length_append,ih,List.length_cons,List.length_nil]; omega
theorem flG_get (xs:List GP)(sl:Nat→Sl):∀ n j,j<n→(flG xs sl n)[j * 4]? = some (.slice (sl j).1 (sl j).2.1 (sl j).2.2)∧(flG xs sl n)[j * 4+1]? = some (.int .i64 (xs.getD j default).ser)∧(flG xs sl n)[j * 4+2]? = some (.int .i64 (xs.getD j default).tm)∧(flG xs sl n)[j * 4+3]? = some (.int .i64 (xs.getD j default).rs):=by
 intro n
 induction n with
 | zero=>intro j hj; omega
 | succ n ih =>
  intro j hj
  have hl:=flG_len xs sl n
  simp only [flG]
  by_cases e:j=n
  ·subst e
   refine ⟨?_,?_,?_,?_⟩
   ·rw [List.getElem?_append_right (by omega),hl,Nat.sub_self]; rfl
   ·rw [List.getElem?_append_right (by omega),hl,show j * 4+1 - j * 4=1 by omega]; rfl
   ·rw [List.getElem?_append_right (by omega),hl,show j * 4+2 - j * 4=2 by omega]; rfl
   ·rw [List.getElem?_append_right (by omega),hl,show j * 4+3 - j * 4=3 by omega]; rfl
  ·obtain ⟨h0,h1,h2,h3⟩:=ih j (by omega)
   refine ⟨?_,?_,?_,?_⟩
   ·rw [List.getElem?_append_left (by omega)]; exact h0
   ·rw [List.getElem?_append_left (by omega)]; exact h1
   ·rw [List.getElem?_append_left (by omega)]; exact h2
   ·rw [List.getElem?_append_left (by omega)]; exact h3
theorem EachQ.own {B:Nat}{w:World}{a:Option Addr}{n c:Nat}{xs:List GP}{sl:Nat→Sl}(h:EachQ B w a n c xs sl):OwnQ B w a n c sl (fun j=>flPt (xs.getD j default).parts) (flG xs sl n):=by
 refine ⟨h.row,fun j hj=>(flG_get xs sl n j hj).1,fun j hj _=>h.each j hj,fun i j hi hj hne hpi hpj e=>?_⟩
 obtain ⟨g,hg,_,_⟩:=ownsRow_shape (h.each i hi) hpi
 rcases Nat.lt_or_gt_of_ne hne with q | q
 ·exact h.apart i j q hj g hg (e ▸ hg)
 ·exact h.apart j i q hi g (e ▸ hg) hg
theorem EachQ.gns {B:Nat}{w:World}{a:Option Addr}{n c:Nat}{xs:List GP}{sl:Nat→Sl}(h:EachQ B w a n c xs sl)(hl:xs.length=n)(hn:n≤1048576)(hp:∀ j,j<n→(sl j).2.1=(xs.getD j default).parts.length)(hz:∀ j,j<n→GpOk (xs.getD j default)):Gns w a n xs:=by
 refine ⟨hl,by omega,fun k hk=>?_⟩
 obtain ⟨g,rfl,_,hg⟩:=ownsRow_shape h.row (by omega)
 obtain ⟨f0,f1,f2,f3⟩:=flG_get xs sl n k hk
 have hzk:=hz k hk
 have e:=hp k hk
 refine ⟨g,0,(sl k).1,(sl k).2.1,(sl k).2.2,rfl,hg,⟨?_,?_,?_,?_⟩,pts_of_row (h.each k hk) e.symm (by have:=hzk.1; omega) (fun i hi=>Nat.le_trans (hzk.2 i (by omega)) (by omega))⟩
 ·rw [Nat.zero_add]; exact (h.row.cellAt (k * 4) (by omega)).trans f0
 ·rw [Nat.zero_add]; exact (h.row.cellAt (k * 4+1) (by omega)).trans f1
 ·rw [Nat.zero_add]; exact (h.row.cellAt (k * 4+2) (by omega)).trans f2
 ·rw [Nat.zero_add]; exact (h.row.cellAt (k * 4+3) (by omega)).trans f3
theorem cloned_of {B:Nat}{w:World}{a1:Option Addr}{n1 c1:Nat}{a2:Option Addr}{n2 c2:Nat}{a3:Option Addr}{n3 c3:Nat}{x:CP}{sl:Nat→Sl}(h1:w.ownsRow B 132 2 (.slice a1 n1 c1) n1 (flPt x.parts))(h2:EachQ B w a2 n2 c2 x.ents sl)(h3:Own B w a3 n3 c3 x.sig)(hp:∀ j,j<n2→(sl j).2.1=(x.ents.getD j default).parts.length)(l1:x.parts.length=n1)(l2:x.ents.length=n2)(hr:Row w a3 n3 x.sig)(hz:CpOk n1 n2 n3 x)
  (ha:∀ j,j<n2→∀ g,(sl j).1=some ⟨g,0,none⟩→a1≠some ⟨g,0,none⟩):Crs w a1 n1 a2 n2 a3 n3 x∧OwnC B w a1 n1 c1 a2 n2 c2 a3 n3 c3 (flPt x.parts) sl (fun j=>flPt (x.ents.getD j default).parts) (flG x.ents sl n2) x.sig:=by
 obtain ⟨z1,z2,z3,z4,z5⟩:=hz
 refine ⟨⟨pts_of_row h1 l1 (by omega) (fun k hk=>Nat.le_trans (z2 k hk) (by omega)),h2.gns l2 z3 hp z4,hr,by omega⟩,⟨fun _=>h1,h2.own,h3,fun j hj hq hs e=>?_⟩⟩
 obtain ⟨g,hg,_,_⟩:=ownsRow_shape h1 hq
 exact ha j hj g (e ▸ hg) hg
open Go.RowKit Go.Sort
def KidZ (L B:Nat)(w:World)(g d:Nat)(ks:List It):Prop:=∃ S:Nat→Prop,KidsI d S w (some ⟨g,0,none⟩) ks.length ks∧∀ b,S b→(b<L∨B≤b)∧b<w.heap.size
theorem KidZ.kept {L:Nat}{B:Nat}{w w':World}{g d:Nat}{ks:List It}(h:KidZ L B w g d ks)(hb:Below w.heap.size w w'):KidZ L B w' g d ks:=by
 obtain ⟨S,h1,h2⟩:=h
 exact ⟨S,h1.touch (P:=fun _=>False) (fun _ _ h=>h) (TouchX.of_below hb),fun b hs=>⟨(h2 b hs).1,Nat.lt_of_lt_of_le (h2 b hs).2 hb.size⟩⟩
theorem KidZ.touched {L:Nat}{B:Nat}{w w':World}{g d gb:Nat}{ks:List It}(h:KidZ L B w g d ks)(ht:Touch gb (gb+1) w w')(hlt:L≤gb∧gb<B):KidZ L B w' g d ks:=by
 obtain ⟨S,h1,h2⟩:=h
 exact ⟨S,h1.touch (fun b hb e=>by have:=(h2 b hb).1; omega) ht.toX,fun b hs=>⟨(h2 b hs).1,Nat.lt_of_lt_of_le (h2 b hs).2 ht.size⟩⟩
def OwnItZ (d L R:Nat)(w:World)(a:Option Addr)(n c:Nat)(xs:List It):Prop:=OwnIts d (fun b=>(b<L∨R≤b)∧b<w.heap.size∧(Value.slice a n c).ownBlock≠some b) w a n c xs∧∀ b,(Value.slice a n c).ownBlock=some b→R≤b
theorem ownItZ_none (d L R:Nat)(w:World):OwnItZ d L R w none 0 0 []:=⟨(OwnIts.nil d w).mono (fun _ h=>h.elim) (fun b hb=>by cases hb),fun b hb=>by cases hb⟩
theorem OwnItZ.kept {L:Nat}{d R:Nat}{w w':World}{a:Option Addr}{n c:Nat}{xs:List It}(h:OwnItZ d L R w a n c xs)(hb:Below w.heap.size w w'):OwnItZ d L R w' a n c xs :=
 ⟨(h.1.kept hb).mono (fun k hk=>⟨hk.1,Nat.lt_of_lt_of_le hk.2.1 hb.size,hk.2.2⟩) (fun b hb hc=>hc.2.2 hb),h.2⟩
theorem OwnItZ.appended {L:Nat}{d R:Nat}{w1 w:World}{a:Option Addr}{n c:Nat}{xs:List It}{y:It}{ab:Option Addr}{nb cb:Nat}{ak:Option Addr}{nk ck:Nat}{g' c':Nat}{T:Nat→Prop}
  (h:OwnItZ d L R w a n c xs) (hy:ItV d T w y ab nb cb ak nk ck) (hT:∀ b,T b→(b<L∨R≤b)∧b<w.heap.size∧(Value.slice a n c).ownBlock≠some b) (hn:n+1≤9223372036854775807)
  {vs:List Value} (hv0:w.ownsRow 0 94 5 (.slice a n c) n vs) (hv:w1.ownsRow 0 94 5 (.slice (some ⟨g',0,none⟩) (n+1) c') (n+1) (vs++itc y ab nb cb ak nk ck)) (hg:w.grownBy w1 (Value.slice a n c).ownBlock) (hl:(Value.slice a n c).ownBlock=some g'∨g'=w.heap.size) (hR:R≤w.heap.size):OwnItZ d L R w1 (some ⟨g',0,none⟩) (n+1) c' (xs++[y]):=by
 refine ⟨((h.1.appended (hy.mono hT) (fun b hb=>hb) (fun b hb hc=>hc.2.2 hb) (fun b hb=>hb.2.1) hn hv0 hv hg hl)).mono (fun k hk=>⟨hk.1,Nat.lt_of_lt_of_le hk.2.1 hg.size,fun e=>?_⟩) (fun b hb hc=>hc.2.2 hb),fun b hb=>?_⟩
 ·have e2:g'=k:=by injection e
  rcases hl with hl | hl
  ·exact hk.2.2 (by rw [hl,e2])
  ·have:=hk.2.1
   omega
 ·have e2:g'=b:=by injection hb
  rcases hl with hl | hl
  ·rw [← e2]; exact h.2 g' hl
  ·omega
theorem OwnItZ.row {L:Nat}{d R:Nat}{w:World}{a:Option Addr}{n c:Nat}{xs:List It}(h:OwnItZ d L R w a n c xs):∃ vs,w.ownsRow 0 94 5 (.slice a n c) n vs:=by
 obtain ⟨vs,h1,_⟩:=h.1.own
 exact ⟨vs,h1⟩
theorem OwnItZ.kids {L:Nat}{d R:Nat}{w:World}{a:Option Addr}{n c:Nat}{xs:List It}(h:OwnItZ d L R w a n c xs):KidsI (d+1) (fun b=>(b<L∨R≤b)∧b<w.heap.size) w a n xs:=by
 obtain ⟨vs,hv⟩:=h.row
 exact h.1.kids (fun k hk=>⟨hk.1,hk.2.1⟩) (fun b hb=>⟨.inr (h.2 b hb),(hv.lt b hb).2⟩)
theorem KidZ.grown {L:Nat}{R:Nat}{w w':World}{g d:Nat}{ks:List It}{row:Option Nat}(h:KidZ L R w g d ks)(hg:w.grownBy w' row)(hlt:∀ j,row=some j→L≤j∧j<R):KidZ L R w' g d ks:=by
 obtain ⟨S,h1,h2⟩:=h
 exact ⟨S,h1.touch (fun k hk e=>by have:=hlt k e; have:=(h2 k hk).1; omega) (touchX_g hg (P:=fun k=>row=some k) (fun k hk=>hk)),fun b hb=>⟨(h2 b hb).1,Nat.lt_of_lt_of_le (h2 b hb).2 hg.size⟩⟩
structure ItZ (L B d:Nat)(w:World)(x:It)(ab:Option Addr)(nb cb:Nat)(ak:Option Addr)(nk ck:Nat):Prop where
 it:ItV d (fun b=>(b<L∨B≤b)∧b<w.heap.size) w x ab nb cb ak nk ck
theorem ItZ.kept {L:Nat}{B d:Nat}{w w':World}{x:It}{ab:Option Addr}{nb cb:Nat}{ak:Option Addr}{nk ck:Nat}(h:ItZ L B d w x ab nb cb ak nk ck)(hb:Below w.heap.size w w'):ItZ L B d w' x ab nb cb ak nk ck:=⟨(h.it.kept hb).mono (fun b hs=>⟨hs.1,Nat.lt_of_lt_of_le hs.2 hb.size⟩)⟩
theorem ItZ.touched {L:Nat}{B d gb:Nat}{w w':World}{x:It}{ab:Option Addr}{nb cb:Nat}{ak:Option Addr}{nk ck:Nat}(h:ItZ L B d w x ab nb cb ak nk ck)(ht:Touch gb (gb+1) w w')(hlt:L≤gb∧gb<B):ItZ L B d w' x ab nb cb ak nk ck:=⟨(h.it.touch (fun b hs e=>by have:=hs.1; omega) ht.toX).mono (fun b hs=>⟨hs.1,Nat.lt_of_lt_of_le hs.2 ht.size⟩)⟩
theorem ItZ.mono {L:Nat}{B B' d:Nat}{w:World}{x:It}{ab:Option Addr}{nb cb:Nat}{ak:Option Addr}{nk ck:Nat}(h:ItZ L B d w x ab nb cb ak nk ck)(hB:B'≤B):ItZ L B' d w x ab nb cb ak nk ck:=⟨h.it.mono (fun b hs=>⟨by have:=hs.1; omega,hs.2⟩)⟩
theorem ItZ.more {L:Nat}{B d:Nat}{w:World}{x:It}{ab:Option Addr}{nb cb:Nat}{ak:Option Addr}{nk ck:Nat}(h:ItZ L B d w x ab nb cb ak nk ck):ItZ L B (d+1) w x ab nb cb ak nk ck:=⟨h.it.more⟩
theorem KidZ.itz {L:Nat}{B:Nat}{w:World}{g d ck:Nat}{ks:List It}(h:KidZ L B w g d ks)(cls tag:Int):ItZ L B d w (.mk cls tag true [] ks) none 0 0 (some ⟨g,0,none⟩) ks.length ck:=by
 obtain ⟨S,h1,h2⟩:=h
 exact ⟨⟨⟨⟨rfl,fun j hj=>absurd hj (Nat.not_lt_zero _),by simp [It.body]⟩,fun x hx=>by cases hx⟩,fun _=>rfl,by decide,h1.mono h2⟩⟩
structure ListZ (L B d:Nat)(w:World)(ao:Option Addr)(n:Nat)(ks:List It):Prop where
 kids:KidsI d (fun b=>(b<L∨B≤b)∧b<w.heap.size) w ao n ks
theorem ListZ.kept {L:Nat}{B d:Nat}{w w':World}{ao:Option Addr}{n:Nat}{ks:List It}(h:ListZ L B d w ao n ks)(hb:Below w.heap.size w w'):ListZ L B d w' ao n ks:=⟨(h.kids.touch (P:=fun _=>False) (fun _ _ h=>h) (TouchX.of_below hb)).mono (fun b hs=>⟨hs.1,Nat.lt_of_lt_of_le hs.2 hb.size⟩)⟩
theorem ListZ.itz {L:Nat}{B d:Nat}{w:World}{ao:Option Addr}{n co:Nat}{ks:List It}(h:ListZ L B d w ao n ks):ItZ L B d w (lstI ks) none 0 0 ao n co:=⟨⟨⟨⟨rfl,fun j hj=>absurd hj (Nat.not_lt_zero _),by simp [lstI,It.body]⟩,fun x hx=>by cases hx⟩,fun _=>rfl,by decide,h.kids⟩⟩
theorem kidZ_n2 {L:Nat}{B d:Nat}{X:World}{x1 x2:It}{a1:Option Addr}{n1 c1:Nat}{k1:Option Addr}{m1 e1:Nat}{a2:Option Addr}{n2 c2:Nat}{k2:Option Addr}{m2 e2:Nat}{t:Nat}(hB:B≤X.heap.size)(h1:ItZ L B d X x1 a1 n1 c1 k1 m1 e1)(h2:ItZ L B d X x2 a2 n2 c2 k2 m2 e2):KidZ L B (X.alloc (.cells #[.int .i64 x1.cls,.int .i64 x1.tag,.bool x1.cons,.slice a1 n1 c1,.slice k1 m1 e1,.int .i64 x2.cls,.int .i64 x2.tag,.bool x2.cons,.slice a2 n2 c2,.slice k2 m2 e2] t)) X.heap.size (d+1) [x1,x2]:=by
 refine ⟨fun b=>(b<L∨B≤b)∧b<X.heap.size+1,kidsI_n2 (S:=fun b=>(b<L∨B≤b)∧b<X.heap.size) h1.it h2.it (fun b hb=>⟨hb.1,by have:=hb.2; omega⟩) ⟨.inr hB,by omega⟩ rfl,fun b hb=>⟨hb.1,?_⟩⟩
 have s:(X.alloc (.cells #[.int .i64 x1.cls,.int .i64 x1.tag,.bool x1.cons,.slice a1 n1 c1,.slice k1 m1 e1,.int .i64 x2.cls,.int .i64 x2.tag,.bool x2.cons,.slice a2 n2 c2,.slice k2 m2 e2] t)).heap.size=X.heap.size+1:=by simp
 have:=hb.2
 omega
theorem kidZ_n4 {L:Nat}{B d:Nat}{X:World}{x1 x2 x3 x4:It}{a1:Option Addr}{n1 c1:Nat}{k1:Option Addr}{m1 e1:Nat}{a2:Option Addr}{n2 c2:Nat}{k2:Option Addr}{m2 e2:Nat}{a3:Option Addr}{n3 c3:Nat}{k3:Option Addr}{m3 e3:Nat}{a4:Option Addr}{n4 c4:Nat}{k4:Option Addr}{m4 e4:Nat}{t:Nat}(hB:B≤X.heap.size)(h1:ItZ L B d X x1 a1 n1 c1 k1 m1 e1)(h2:ItZ L B d X x2 a2 n2 c2 k2 m2 e2)(h3:ItZ L B d X x3 a3 n3 c3 k3 m3 e3)(h4:ItZ L B d X x4 a4 n4 c4 k4 m4 e4):KidZ L B (X.alloc (.cells #[.int .i64 x1.cls,.int .i64 x1.tag,.bool x1.cons,.slice a1 n1 c1,.slice k1 m1 e1,.int .i64 x2.cls,.int .i64 x2.tag,.bool x2.cons,.slice a2 n2 c2,.slice k2 m2 e2,.int .i64 x3.cls,.int .i64 x3.tag,.bool x3.cons,.slice a3 n3 c3,.slice k3 m3 e3,.int .i64 x4.cls,.int .i64 x4.tag,.bool x4.cons,.slice a4 n4 c4,.slice k4 m4 e4] t)) X.heap.size (d+1) [x1,x2,x3,x4]:=by
 refine ⟨fun b=>(b<L∨B≤b)∧b<X.heap.size+1,kidsI_n4 (S:=fun b=>(b<L∨B≤b)∧b<X.heap.size) h1.it h2.it h3.it h4.it (fun b hb=>⟨hb.1,by have:=hb.2; omega⟩) ⟨.inr hB,by omega⟩ rfl,fun b hb=>⟨hb.1,?_⟩⟩
 have s:(X.alloc (.cells #[.int .i64 x1.cls,.int .i64 x1.tag,.bool x1.cons,.slice a1 n1 c1,.slice k1 m1 e1,.int .i64 x2.cls,.int .i64 x2.tag,.bool x2.cons,.slice a2 n2 c2,.slice k2 m2 e2,.int .i64 x3.cls,.int .i64 x3.tag,.bool x3.cons,.slice a3 n3 c3,.slice k3 m3 e3,.int .i64 x4.cls,.int .i64 x4.tag,.bool x4.cons,.slice a4 n4 c4,.slice k4 m4 e4] t)).heap.size=X.heap.size+1:=by simp
 have:=hb.2
 omega
theorem ItZ.grown {L:Nat}{B d:Nat}{w w':World}{x:It}{ab:Option Addr}{nb cb:Nat}{ak:Option Addr}{nk ck:Nat}{row:Option Nat}(h:ItZ L B d w x ab nb cb ak nk ck)(hg:w.grownBy w' row)(hlt:∀ j,row=some j→L≤j∧j<B):ItZ L B d w' x ab nb cb ak nk ck :=
 ⟨(h.it.touch (fun k hk e=>by have:=hlt k e; have:=hk.1; omega) (touchX_g hg (P:=fun k=>row=some k) (fun k hk=>hk))).mono (fun b hs=>⟨hs.1,Nat.lt_of_lt_of_le hs.2 hg.size⟩)⟩
open Go.RowKit Go.Sort
def ItR (L R d:Nat)(x:It)(e:Ending)(w':World):Prop:=∃ ab nb cb ak nk ck,e=.returned (.agg #[.int .i64 x.cls,.int .i64 x.tag,.bool x.cons,.slice ab nb cb,.slice ak nk ck])∧ItZ L R d w' x ab nb cb ak nk ck
theorem ItZ.le {L B d d':Nat}{w:World}{x:It}{ab:Option Addr}{nb cb:Nat}{ak:Option Addr}{nk ck:Nat}(h:ItZ L B d w x ab nb cb ak nk ck)(hd:d≤d'):ItZ L B d' w x ab nb cb ak nk ck:=by
 induction hd with
 | refl=>exact h
 | step _ ih=>exact ih.more
theorem rowZ {L B:Nat}{w:World}{g k n c:Nat}{bs:List Int}(hr:Row w (some ⟨g,k,none⟩) n bs)(hB:B≤g)(t:Int)(hn:n≤9223372036854775807):ItZ L B 1 w (.mk 0 t false bs []) (some ⟨g,k,none⟩) n c none 0 0:=by
 refine ⟨⟨⟨hr,fun x hx h0=>?_⟩,fun e=>(by cases e),hn,KidsI.none 0 _ _ _⟩⟩
 obtain ⟨b,off,ha,hlt,_⟩:=hr.get 0 h0
 injection hx with hx
 injection ha with ha
 injection ha with ha _
 rw [← hx]
 refine ⟨.inr hB,?_⟩
 show g<_
 rw [ha]
 exact hlt
theorem Own.itzB {L B:Nat}{w:World}{a:Option Addr}{n c:Nat}{bs:List Int}(h:Own B w a n c bs)(t:Int)(hn:n≤9223372036854775807):ItZ L B 1 w (.mk 0 t false bs []) a n c none 0 0:=⟨(h.itv1 t hn).mono (fun b hs=>⟨.inr hs.1,hs.2⟩)⟩
theorem kidsI_n1 {d:Nat}{S:Nat→Prop}{X:World}{x1:It}{a1:Option Addr}{n1 c1:Nat}{k1:Option Addr}{m1 e1:Nat}(h1:ItV d S X x1 a1 n1 c1 k1 m1 e1){T:Nat→Prop}(hs:∀ b,S b→T b)(hT:T X.heap.size){W:World}{t:Nat}(hW:W=X.alloc (.cells #[.int .i64 x1.cls,.int .i64 x1.tag,.bool x1.cons,.slice a1 n1 c1,.slice k1 m1 e1] t)):KidsI (d+1) T W (some ⟨X.heap.size,0,none⟩) 1 [x1]:=by
 subst hW
 have hb:Below X.heap.size X (X.alloc (.cells #[.int .i64 x1.cls,.int .i64 x1.tag,.bool x1.cons,.slice a1 n1 c1,.slice k1 m1 e1] t)):=(Below.refl _ _).alloc (Nat.le_refl _) _
 have hc:=fun j=>cell_of_row _ X.heap.size j _ t (0,0) (heap_alloc_new X (.cells #[.int .i64 x1.cls,.int .i64 x1.tag,.bool x1.cons,.slice a1 n1 c1,.slice k1 m1 e1] t))
 have g1:=(h1.kept hb).mono hs
 refine ⟨rfl,by decide,fun k hk=>⟨X.heap.size,0,rfl,by simp,hT,?_⟩⟩
 rcases (show k=0 by omega) with rfl
 ·exact ⟨a1,n1,c1,k1,m1,e1,(hc 0).trans rfl,(hc 1).trans rfl,(hc 2).trans rfl,(hc 3).trans rfl,(hc 4).trans rfl,g1.row,g1.nil,g1.max,g1.kids⟩
theorem kidZ_n1 {L:Nat}{B d:Nat}{X:World}{x1:It}{a1:Option Addr}{n1 c1:Nat}{k1:Option Addr}{m1 e1:Nat}{t:Nat}(hB:B≤X.heap.size)(h1:ItZ L B d X x1 a1 n1 c1 k1 m1 e1):KidZ L B (X.alloc (.cells #[.int .i64 x1.cls,.int .i64 x1.tag,.bool x1.cons,.slice a1 n1 c1,.slice k1 m1 e1] t)) X.heap.size (d+1) [x1]:=by
 refine ⟨fun b=>(b<L∨B≤b)∧b<X.heap.size+1,kidsI_n1 (S:=fun b=>(b<L∨B≤b)∧b<X.heap.size) h1.it (fun b hb=>⟨hb.1,by have:=hb.2; omega⟩) ⟨.inr hB,by omega⟩ rfl,fun b hb=>⟨hb.1,?_⟩⟩
 have s:(X.alloc (.cells #[.int .i64 x1.cls,.int .i64 x1.tag,.bool x1.cons,.slice a1 n1 c1,.slice k1 m1 e1] t)).heap.size=X.heap.size+1:=by simp
 have:=hb.2
 omega
theorem kidsI_n8 {d:Nat}{S:Nat→Prop}{X:World}{x1 x2 x3 x4 x5 x6 x7 x8:It}{a1:Option Addr}{n1 c1:Nat}{k1:Option Addr}{m1 e1:Nat}{a2:Option Addr}{n2 c2:Nat}{k2:Option Addr}{m2 e2:Nat}{a3:Option Addr}{n3 c3:Nat}{k3:Option Addr}{m3 e3:Nat}{a4:Option Addr}{n4 c4:Nat}{k4:Option Addr}{m4 e4:Nat}{a5:Option Addr}{n5 c5:Nat}{k5:Option Addr}{m5 e5:Nat}{a6:Option Addr}{n6 c6:Nat}{k6:Option Addr}{m6 e6:Nat}{a7:Option Addr}{n7 c7:Nat}{k7:Option Addr}{m7 e7:Nat}{a8:Option Addr}{n8 c8:Nat}{k8:Option Addr}{m8 e8:Nat}(h1:ItV d S X x1 a1 n1 c1 k1 m1 e1)(h2:ItV d S X x2 a2 n2 c2 k2 m2 e2)(h3:ItV d S X x3 a3 n3 c3 k3 m3 e3)(h4:ItV d S X x4 a4 n4 c4 k4 m4 e4)(h5:ItV d S X x5 a5 n5 c5 k5 m5 e5)(h6:ItV d S X x6 a6 n6 c6 k6 m6 e6)(h7:ItV d S X x7 a7 n7 c7 k7 m7 e7)(h8:ItV d S X x8 a8 n8 c8 k8 m8 e8){T:Nat→Prop}(hs:∀ b,S b→T b)(hT:T X.heap.size){W:World}{t:Nat}(hW:W=X.alloc (.cells #[.int .i64 x1.cls,.int .i64 x1.tag,.bool x1.cons,.slice a1 n1 c1,.slice k1 m1 e1,.int .i64 x2.cls,.int .i64 x2.tag,.bool x2.cons,.slice a2 n2 c2,.slice k2 m2 e2,.int .i64 x3.cls,.int .i64 x3.tag,.bool x3.cons,.slice a3 n3 c3,.slice k3 m3 e3,.int .i64 x4.cls,.int .i64 x4.tag,.bool x4.cons,.slice a4 n4 c4,.slice k4 m4 e4,.int .i64 x5.cls,.int .i64 x5.tag,.bool x5.cons,.slice a5 n5 c5,.slice k5 m5 e5,.int .i64 x6.cls,.int .i64 x6.tag,.bool x6.cons,.slice a6 n6 c6,.slice k6 m6 e6,.int .i64 x7.cls,.int .i64 x7.tag,.bool x7.cons,.slice a7 n7 c7,.slice k7 m7 e7,.int .i64 x8.cls,.int .i64 x8.tag,.bool x8.cons,.slice a8 n8 c8,.slice k8 m8 e8] t)):KidsI (d+1) T W (some ⟨X.heap.size,0,none⟩) 8 [x1,x2,x3,x4,x5,x6,x7,x8]:=by
 subst hW
 have hb:Below X.heap.size X (X.alloc (.cells #[.int .i64 x1.cls,.int .i64 x1.tag,.bool x1.cons,.slice a1 n1 c1,.slice k1 m1 e1,.int .i64 x2.cls,.int .i64 x2.tag,.bool x2.cons,.slice a2 n2 c2,.slice k2 m2 e2,.int .i64 x3.cls,.int .i64 x3.tag,.bool x3.cons,.slice a3 n3 c3,.slice k3 m3 e3,.int .i64 x4.cls,.int .i64 x4.tag,.bool x4.cons,.slice a4 n4 c4,.slice k4 m4 e4,.int .i64 x5.cls,.int .i64 x5.tag,.bool x5.cons,.slice a5 n5 c5,.slice k5 m5 e5,.int .i64 x6.cls,.int .i64 x6.tag,.bool x6.cons,.slice a6 n6 c6,.slice k6 m6 e6,.int .i64 x7.cls,.int .i64 x7.tag,.bool x7.cons,.slice a7 n7 c7,.slice k7 m7 e7,.int .i64 x8.cls,.int .i64 x8.tag,.bool x8.cons,.slice a8 n8 c8,.slice k8 m8 e8] t)):=(Below.refl _ _).alloc (Nat.le_refl _) _
 have hc:=fun j=>cell_of_row _ X.heap.size j _ t (0,0) (heap_alloc_new X (.cells #[.int .i64 x1.cls,.int .i64 x1.tag,.bool x1.cons,.slice a1 n1 c1,.slice k1 m1 e1,.int .i64 x2.cls,.int .i64 x2.tag,.bool x2.cons,.slice a2 n2 c2,.slice k2 m2 e2,.int .i64 x3.cls,.int .i64 x3.tag,.bool x3.cons,.slice a3 n3 c3,.slice k3 m3 e3,.int .i64 x4.cls,.int .i64 x4.tag,.bool x4.cons,.slice a4 n4 c4,.slice k4 m4 e4,.int .i64 x5.cls,.int .i64 x5.tag,.bool x5.cons,.slice a5 n5 c5,.slice k5 m5 e5,.int .i64 x6.cls,.int .i64 x6.tag,.bool x6.cons,.slice a6 n6 c6,.slice k6 m6 e6,.int .i64 x7.cls,.int .i64 x7.tag,.bool x7.cons,.slice a7 n7 c7,.slice k7 m7 e7,.int .i64 x8.cls,.int .i64 x8.tag,.bool x8.cons,.slice a8 n8 c8,.slice k8 m8 e8] t))
 have g1:=(h1.kept hb).mono hs
 have g2:=(h2.kept hb).mono hs
 have g3:=(h3.kept hb).mono hs
 have g4:=(h4.kept hb).mono hs
 have g5:=(h5.kept hb).mono hs
 have g6:=(h6.kept hb).mono hs
 have g7:=(h7.kept hb).mono hs
 have g8:=(h8.kept hb).mono hs
 refine ⟨rfl,by decide,fun k hk=>⟨X.heap.size,0,rfl,by simp,hT,?_⟩⟩
 rcases (show k=0∨k=1∨k=2∨k=3∨k=4∨k=5∨k=6∨k=7 by omega) with rfl | rfl | rfl | rfl | rfl | rfl | rfl | rfl
 ·exact ⟨a1,n1,c1,k1,m1,e1,(hc 0).trans rfl,(hc 1).trans rfl,(hc 2).trans rfl,(hc 3).trans rfl,(hc 4).trans rfl,g1.row,g1.nil,g1.max,g1.kids⟩
 ·exact ⟨a2,n2,c2,k2,m2,e2,(hc 5).trans rfl,(hc 6).trans rfl,(hc 7).trans rfl,(hc 8).trans rfl,(hc 9).trans rfl,g2.row,g2.nil,g2.max,g2.kids⟩
 ·exact ⟨a3,n3,c3,k3,m3,e3,(hc 10).trans rfl,(hc 11).trans rfl,(hc 12).trans rfl,(hc 13).trans rfl,(hc 14).trans rfl,g3.row,g3.nil,g3.max,g3.kids⟩
 ·exact ⟨a4,n4,c4,k4,m4,e4,(hc 15).trans rfl,(hc 16).trans rfl,(hc 17).trans rfl,(hc 18).trans rfl,(hc 19).trans rfl,g4.row,g4.nil,g4.max,g4.kids⟩
 ·exact ⟨a5,n5,c5,k5,m5,e5,(hc 20).trans rfl,(hc 21).trans rfl,(hc 22).trans rfl,(hc 23).trans rfl,(hc 24).trans rfl,g5.row,g5.nil,g5.max,g5.kids⟩
 ·exact ⟨a6,n6,c6,k6,m6,e6,(hc 25).trans rfl,(hc 26).trans rfl,(hc 27).trans rfl,(hc 28).trans rfl,(hc 29).trans rfl,g6.row,g6.nil,g6.max,g6.kids⟩
 ·exact ⟨a7,n7,c7,k7,m7,e7,(hc 30).trans rfl,(hc 31).trans rfl,(hc 32).trans rfl,(hc 33).trans rfl,(hc 34).trans rfl,g7.row,g7.nil,g7.max,g7.kids⟩
 ·exact ⟨a8,n8,c8,k8,m8,e8,(hc 35).trans rfl,(hc 36).trans rfl,(hc 37).trans rfl,(hc 38).trans rfl,(hc 39).trans rfl,g8.row,g8.nil,g8.max,g8.kids⟩
theorem kidZ_n8 {L:Nat}{B d:Nat}{X:World}{x1 x2 x3 x4 x5 x6 x7 x8:It}{a1:Option Addr}{n1 c1:Nat}{k1:Option Addr}{m1 e1:Nat}{a2:Option Addr}{n2 c2:Nat}{k2:Option Addr}{m2 e2:Nat}{a3:Option Addr}{n3 c3:Nat}{k3:Option Addr}{m3 e3:Nat}{a4:Option Addr}{n4 c4:Nat}{k4:Option Addr}{m4 e4:Nat}{a5:Option Addr}{n5 c5:Nat}{k5:Option Addr}{m5 e5:Nat}{a6:Option Addr}{n6 c6:Nat}{k6:Option Addr}{m6 e6:Nat}{a7:Option Addr}{n7 c7:Nat}{k7:Option Addr}{m7 e7:Nat}{a8:Option Addr}{n8 c8:Nat}{k8:Option Addr}{m8 e8:Nat}{t:Nat}(hB:B≤X.heap.size)(h1:ItZ L B d X x1 a1 n1 c1 k1 m1 e1)(h2:ItZ L B d X x2 a2 n2 c2 k2 m2 e2)(h3:ItZ L B d X x3 a3 n3 c3 k3 m3 e3)(h4:ItZ L B d X x4 a4 n4 c4 k4 m4 e4)(h5:ItZ L B d X x5 a5 n5 c5 k5 m5 e5)(h6:ItZ L B d X x6 a6 n6 c6 k6 m6 e6)(h7:ItZ L B d X x7 a7 n7 c7 k7 m7 e7)(h8:ItZ L B d X x8 a8 n8 c8 k8 m8 e8):KidZ L B (X.alloc (.cells #[.int .i64 x1.cls,.int .i64 x1.tag,.bool x1.cons,.slice a1 n1 c1,.slice k1 m1 e1,.int .i64 x2.cls,.int .i64 x2.tag,.bool x2.cons,.slice a2 n2 c2,.slice k2 m2 e2,.int .i64 x3.cls,.int .i64 x3.tag,.bool x3.cons,.slice a3 n3 c3,.slice k3 m3 e3,.int .i64 x4.cls,.int .i64 x4.tag,.bool x4.cons,.slice a4 n4 c4,.slice k4 m4 e4,.int .i64 x5.cls,.int .i64 x5.tag,.bool x5.cons,.slice a5 n5 c5,.slice k5 m5 e5,.int .i64 x6.cls,.int .i64 x6.tag,.bool x6.cons,.slice a6 n6 c6,.slice k6 m6 e6,.int .i64 x7.cls,.int .i64 x7.tag,.bool x7.cons,.slice a7 n7 c7,.slice k7 m7 e7,.int .i64 x8.cls,.int .i64 x8.tag,.bool x8.cons,.slice a8 n8 c8,.slice k8 m8 e8] t)) X.heap.size (d+1) [x1,x2,x3,x4,x5,x6,x7,x8]:=by
 refine ⟨fun b=>(b<L∨B≤b)∧b<X.heap.size+1,kidsI_n8 (S:=fun b=>(b<L∨B≤b)∧b<X.heap.size) h1.it h2.it h3.it h4.it h5.it h6.it h7.it h8.it (fun b hb=>⟨hb.1,by have:=hb.2; omega⟩) ⟨.inr hB,by omega⟩ rfl,fun b hb=>⟨hb.1,?_⟩⟩
 have s:(X.alloc (.cells #[.int .i64 x1.cls,.int .i64 x1.tag,.bool x1.cons,.slice a1 n1 c1,.slice k1 m1 e1,.int .i64 x2.cls,.int .i64 x2.tag,.bool x2.cons,.slice a2 n2 c2,.slice k2 m2 e2,.int .i64 x3.cls,.int .i64 x3.tag,.bool x3.cons,.slice a3 n3 c3,.slice k3 m3 e3,.int .i64 x4.cls,.int .i64 x4.tag,.bool x4.cons,.slice a4 n4 c4,.slice k4 m4 e4,.int .i64 x5.cls,.int .i64 x5.tag,.bool x5.cons,.slice a5 n5 c5,.slice k5 m5 e5,.int .i64 x6.cls,.int .i64 x6.tag,.bool x6.cons,.slice a6 n6 c6,.slice k6 m6 e6,.int .i64 x7.cls,.int .i64 x7.tag,.bool x7.cons,.slice a7 n7 c7,.slice k7 m7 e7,.int .i64 x8.cls,.int .i64 x8.tag,.bool x8.cons,.slice a8 n8 c8,.slice k8 m8 e8] t)).heap.size=X.heap.size+1:=by simp
 have:=hb.2
 omega
def flgI (b:Bool):It:=.mk 0 1 false [if b then 255 else 0] []
def parI (x:PT):It:=strI [numI x.attr,bytI (bytesOf x.val)]
def namI (xs:List PT):It:=strI [lstI (xs.map parI)]
theorem numberItem_R (n:Int)(L:Nat)(w:World)(h:W64 n) :
  Calls Tryz.prog 68 #[.int .i64 n] w fun e w'=>ItR L w.heap.size 1 (numI n) e w'∧Below w.heap.size w w':=by
 refine (numberItem_agg n w h.1 h.2).mono ?_
 rintro e w1 ⟨g,k,rfl,hge,hr,hb⟩
 exact ⟨⟨_,_,_,_,_,_,rfl,rowZ hr hge 2 (by have:=wsz_bd n; omega)⟩,hb⟩
theorem bytesItem_aggC (a:Option Addr)(n c:Nat)(bs:List Int)(w:World) :
  Calls Tryz.prog 140 #[.slice a n c] w fun e w'=>e=.returned (.agg #[.int .i64 0,.int .i64 4,.bool false,.slice a n c,.slice none 0 0])∧Below w.heap.size w w':=bytesItem_any a n c bs w
theorem ItZ.put {L d:Nat}{w w2:World}{x:It}{ab:Option Addr}{nb cb:Nat}{ak:Option Addr}{nk ck:Nat}{B:Nat}(hZ:ItZ L B d w2 x ab nb cb ak nk ck)(hL:L≤w.heap.size)(hB:w.heap.size<B)(u0 u1 u2 u3 u4:Value):ItZ L w.heap.size d (put5I w2 w.heap.size u0 u1 u2 u3 u4) x ab nb cb ak nk ck:=(hZ.touched (put5_touch w2 w.heap.size u0 u1 u2 u3 u4) ⟨hL,hB⟩).mono (Nat.le_of_lt hB)
theorem textItem_R (s:ByteArray)(L:Nat)(w:World)(hs:s.size≤9223372036854775807)(hL:L≤w.heap.size) :
  Calls Tryz.prog 131 #[.string s] w fun e w'=>ItR L w.heap.size 1 (bytI (bytesOf s)) e w'∧Below w.heap.size w w':=by
 have hbx:=box5_below w
 have hsz:=box5_size w
 have HB5:Hid (_=_):=box5_new w
 obtain ⟨cp,W2,hcv,hrow,hb3⟩:=conv_str (w.alloc (.cells #[.int .i64 0,.int .i64 0,.bool false,.slice none 0 0,.slice none 0 0] 94)) s
 have hb3':Below (box5 w).heap.size (box5 w) W2:=hb3
 have HR:Hid (Row W2 (some ⟨w.heap.size+1,0,none⟩) s.size (bytesOf s)):=by
  have h9:Row W2 (some ⟨(box5 w).heap.size,0,none⟩) s.size (bytesOf s):=hrow
  rw [hsz] at h9
  exact h9
 clear hrow hb3
 go_enter Tryz.func131,Tryz.ntmps131
 go_wp2_with fail
 refine (bytesItem_aggC (some ⟨w.heap.size+1,0,none⟩) s.size cp (bytesOf s) W2).mono ?_
 rintro e w2 ⟨rfl,hb2⟩
 have hb23:Below (box5 w).heap.size (box5 w) w2:=keepT hb3' hb2
 have HR2:Hid (Row w2 (some ⟨w.heap.size+1,0,none⟩) s.size (bytesOf s)):=HR.out.kept hb2
 have h5:=below_kept HB5.out hb23
 obtain ⟨_,q0,q1,q2,q3,q4,q5,q6,q7,q8,q9⟩:=Box5.of h5
 have H5:Hid (_=_):=h5
 have B2:Below w.heap.size w w2:=keepT hbx hb23
 clear h5 hb2 hb23 hcv hb3'
 go_wp2_with fail
 try simp only [Exit.inBlock,Exit.then]
 have T:=put5_touch w2 w.heap.size (.int .i64 0) (.int .i64 4) (.bool false) (.slice (some ⟨w.heap.size+1,0,none⟩) s.size cp) (.slice none 0 0)
 have hZ:ItZ L (w.heap.size+1) 1 w2 (bytI (bytesOf s)) (some ⟨w.heap.size+1,0,none⟩) s.size cp none 0 0:=rowZ HR2.out (Nat.le_refl _) 4 hs
 exact bodyPost_ret (results_it rfl _ w.heap.size rfl _ _ _ _ _ _ (put5_heap H5.out _ _ _ _ _)) rfl ⟨⟨_,_,_,_,_,_,rfl,hZ.put hL (by omega) _ _ _ _ _⟩,B2.trans (T.below (Nat.le_refl _) B2.size)⟩
theorem boolTag_R (w:World):Calls Tryz.prog 133 #[.agg #[]] w fun e w'=>e=.returned (.int .i64 1)∧Below w.heap.size w w':=by
 go_enter Tryz.func133,Tryz.ntmps133
 go_wp2
 go_ret
 exact ⟨rfl,(Below.refl _ _).alloc (Nat.le_refl _) _⟩
theorem boolItem_0 (w:World)(L:Nat)(hL:L≤w.heap.size):Calls Tryz.prog 112 #[.agg #[],.agg #[.bool false,.int .i64 0,.slice none 0 0,.slice none 0 0,.slice none 0 0]] w fun e w'=>ItR L w.heap.size 1 (flgI false) e w'∧Below w.heap.size w w':=by
 obtain ⟨wa,hwa⟩:∃ wa,wa=(w.alloc (.cells #[] 148)).alloc (.cells #[.bool false,.int .i64 0,.slice none 0 0,.slice none 0 0,.slice none 0 0] 152):=⟨_,rfl⟩
 have hbA:Below w.heap.size w wa:=by rw [hwa]; exact ((Below.refl _ _).alloc (Nat.le_refl _) _).alloc (by simp) _
 have hsA:wa.heap.size=w.heap.size+1+1:=by rw [hwa]; simp
 obtain ⟨w1,hw1⟩:∃ w1,w1=box5 wa:=⟨_,rfl⟩
 have hbb:Below w.heap.size w w1:=by rw [hw1]; exact keepT hbA (box5_below wa)
 have hsz:w1.heap.size=w.heap.size+3:=by rw [hw1,box5_size,hsA]
 have HB:Hid (w1.heap[w.heap.size+1+1]? = some (.cells #[.int .i64 0,.int .i64 0,.bool false,.slice none 0 0,.slice none 0 0] 94 (0,0))):=by show _=_; rw [← hsA,hw1]; exact box5_new wa
 have HW:Hid (w1=((w.alloc (.cells #[] 148)).alloc (.cells #[.bool false,.int .i64 0,.slice none 0 0,.slice none 0 0,.slice none 0 0] 152)).alloc (.cells #[.int .i64 0,.int .i64 0,.bool false,.slice none 0 0,.slice none 0 0] 94)):=by show _=_; rw [hw1,hwa]; rfl
 clear hw1 hwa hbA hsA
 go_enter Tryz.func112,Tryz.ntmps112
 go_wp2_with fail
 rw [← HW.out]
 clear HW
 refine (boolTag_R w1).mono ?_
 rintro e w2 ⟨rfl,hb2⟩
 have hal:Below w2.heap.size w2 (w2.alloc (.cells #[.int .u8 0] 5)):=(Below.refl _ _).alloc (Nat.le_refl _) _
 have h5:=below_kept (below_kept HB.out hb2) hal
 obtain ⟨_,q0,q1,q2,q3,q4,q5,q6,q7,q8,q9⟩:=Box5.of h5
 have H5:Hid (_=_):=h5
 have B2:Below w.heap.size w (w2.alloc (.cells #[.int .u8 0] 5)):=keepT (keepT hbb hb2) hal
 have hs2:=hb2.size
 have HN:Hid ((w2.alloc (.cells #[.int .u8 0] 5)).heap[w2.heap.size]? = some (.cells #[.int .u8 0] 5 (0,0))):=heap_alloc_new w2 _
 clear h5 hb2 hal
 go_wp2_with fail
 try simp only [Exit.inBlock,Exit.then]
 have T:=put5_touch (w2.alloc (.cells #[.int .u8 0] 5)) (w.heap.size+1+1) (.int .i64 0) (.int .i64 1) (.bool false) (.slice (some ⟨w2.heap.size,0,none⟩) 1 1) (.slice none 0 0)
 have hR:Row (w2.alloc (.cells #[.int .u8 0] 5)) (some ⟨w2.heap.size,0,none⟩) 1 [0]:=by
  refine ⟨rfl,fun k hk=>⟨w2.heap.size,0,rfl,by simp,?_⟩,fun k=>?_⟩
  ·obtain rfl:k=0:=by omega
   exact (cell_of_row _ _ 0 _ 5 (0,0) HN.out).trans rfl
  ·match k with
   | 0=>decide
   | k+1=>simp
 have hZ:ItZ L (w.heap.size+3) 1 (w2.alloc (.cells #[.int .u8 0] 5)) (flgI false) (some ⟨w2.heap.size,0,none⟩) 1 1 none 0 0:=rowZ hR (by omega) 1 (by decide)
 exact bodyPost_ret (results_it rfl _ (w.heap.size+1+1) rfl _ _ _ _ _ _ (put5_heap H5.out _ _ _ _ _)) rfl ⟨⟨_,_,_,_,_,_,rfl,(hZ.touched T ⟨by omega,by omega⟩).mono (by omega)⟩,B2.trans (T.below (by omega) (by have:=B2.size; omega))⟩
theorem boolItem_1 (w:World)(L:Nat)(hL:L≤w.heap.size):Calls Tryz.prog 112 #[.agg #[],.agg #[.bool false,.int .i64 1,.slice none 0 0,.slice none 0 0,.slice none 0 0]] w fun e w'=>ItR L w.heap.size 1 (flgI true) e w'∧Below w.heap.size w w':=by
 obtain ⟨wa,hwa⟩:∃ wa,wa=(w.alloc (.cells #[] 148)).alloc (.cells #[.bool false,.int .i64 1,.slice none 0 0,.slice none 0 0,.slice none 0 0] 152):=⟨_,rfl⟩
 have hbA:Below w.heap.size w wa:=by rw [hwa]; exact ((Below.refl _ _).alloc (Nat.le_refl _) _).alloc (by simp) _
 have hsA:wa.heap.size=w.heap.size+1+1:=by rw [hwa]; simp
 obtain ⟨w1,hw1⟩:∃ w1,w1=box5 wa:=⟨_,rfl⟩
 have hbb:Below w.heap.size w w1:=by rw [hw1]; exact keepT hbA (box5_below wa)
 have hsz:w1.heap.size=w.heap.size+3:=by rw [hw1,box5_size,hsA]
 have HB:Hid (w1.heap[w.heap.size+1+1]? = some (.cells #[.int .i64 0,.int .i64 0,.bool false,.slice none 0 0,.slice none 0 0] 94 (0,0))):=by show _=_; rw [← hsA,hw1]; exact box5_new wa
 have HW:Hid (w1=((w.alloc (.cells #[] 148)).alloc (.cells #[.bool false,.int .i64 1,.slice none 0 0,.slice none 0 0,.slice none 0 0] 152)).alloc (.cells #[.int .i64 0,.int .i64 0,.bool false,.slice none 0 0,.slice none 0 0] 94)):=by show _=_; rw [hw1,hwa]; rfl
 clear hw1 hwa hbA hsA
 go_enter Tryz.func112,Tryz.ntmps112
 go_wp2_with fail
 rw [← HW.out]
 clear HW
 refine (boolTag_R w1).mono ?_
 rintro e w2 ⟨rfl,hb2⟩
 have hal:Below w2.heap.size w2 (w2.alloc (.cells #[.int .u8 255] 5)):=(Below.refl _ _).alloc (Nat.le_refl _) _
 have h5:=below_kept (below_kept HB.out hb2) hal
 obtain ⟨_,q0,q1,q2,q3,q4,q5,q6,q7,q8,q9⟩:=Box5.of h5
 have H5:Hid (_=_):=h5
 have B2:Below w.heap.size w (w2.alloc (.cells #[.int .u8 255] 5)):=keepT (keepT hbb hb2) hal
 have hs2:=hb2.size
 have HN:Hid ((w2.alloc (.cells #[.int .u8 255] 5)).heap[w2.heap.size]? = some (.cells #[.int .u8 255] 5 (0,0))):=heap_alloc_new w2 _
 clear h5 hb2 hal
 go_wp2_with fail
 try simp only [Exit.inBlock,Exit.then]
 have T:=put5_touch (w2.alloc (.cells #[.int .u8 255] 5)) (w.heap.size+1+1) (.int .i64 0) (.int .i64 1) (.bool false) (.slice (some ⟨w2.heap.size,0,none⟩) 1 1) (.slice none 0 0)
 have hR:Row (w2.alloc (.cells #[.int .u8 255] 5)) (some ⟨w2.heap.size,0,none⟩) 1 [255]:=by
  refine ⟨rfl,fun k hk=>⟨w2.heap.size,0,rfl,by simp,?_⟩,fun k=>?_⟩
  ·obtain rfl:k=0:=by omega
   exact (cell_of_row _ _ 0 _ 5 (0,0) HN.out).trans rfl
  ·match k with
   | 0=>decide
   | k+1=>simp
 have hZ:ItZ L (w.heap.size+3) 1 (w2.alloc (.cells #[.int .u8 255] 5)) (flgI true) (some ⟨w2.heap.size,0,none⟩) 1 1 none 0 0:=rowZ hR (by omega) 1 (by decide)
 exact bodyPost_ret (results_it rfl _ (w.heap.size+1+1) rfl _ _ _ _ _ _ (put5_heap H5.out _ _ _ _ _)) rfl ⟨⟨_,_,_,_,_,_,rfl,(hZ.touched T ⟨by omega,by omega⟩).mono (by omega)⟩,B2.trans (T.below (by omega) (by have:=B2.size; omega))⟩
theorem flagItem_R (b:Bool)(w:World)(L:Nat)(hL:L≤w.heap.size):Calls Tryz.prog 69 #[.bool b] w fun e w'=>ItR L w.heap.size 1 (flgI b) e w'∧Below w.heap.size w w':=by
 have hbx:=box5_below w
 have hsz:=box5_size w
 have HB5:Hid (_=_):=box5_new w
 cases b
 ·go_enter Tryz.func69,Tryz.ntmps69
  go_wp2_with fail
  refine (boolItem_0 (box5 w) L (by omega)).mono ?_
  rintro e w2 ⟨⟨ab,nb,cb,ak,nk,ck,rfl,hit⟩,hb2⟩
  have HIT:Hid (_):=hit
  have h5:=below_kept HB5.out hb2
  obtain ⟨_,q0,q1,q2,q3,q4,q5,q6,q7,q8,q9⟩:=Box5.of h5
  have H5:Hid (_=_):=h5
  have B2:Below w.heap.size w w2:=keepT hbx hb2
  clear h5 hb2 hit
  go_wp2_with fail
  try simp only [Exit.inBlock,Exit.then]
  have T:=put5_touch w2 w.heap.size (.int .i64 (flgI false).cls) (.int .i64 (flgI false).tag) (.bool (flgI false).cons) (.slice ab nb cb) (.slice ak nk ck)
  exact bodyPost_ret (results_it rfl _ w.heap.size rfl _ _ _ _ _ _ (put5_heap H5.out _ _ _ _ _)) rfl ⟨⟨_,_,_,_,_,_,rfl,HIT.out.put hL (by omega) _ _ _ _ _⟩,B2.trans (T.below (Nat.le_refl _) B2.size)⟩
 ·go_enter Tryz.func69,Tryz.ntmps69
  go_wp2_with fail
  refine (boolItem_1 (box5 w) L (by omega)).mono ?_
  rintro e w2 ⟨⟨ab,nb,cb,ak,nk,ck,rfl,hit⟩,hb2⟩
  have HIT:Hid (_):=hit
  have h5:=below_kept HB5.out hb2
  obtain ⟨_,q0,q1,q2,q3,q4,q5,q6,q7,q8,q9⟩:=Box5.of h5
  have H5:Hid (_=_):=h5
  have B2:Below w.heap.size w w2:=keepT hbx hb2
  clear h5 hb2 hit
  go_wp2_with fail
  try simp only [Exit.inBlock,Exit.then]
  have T:=put5_touch w2 w.heap.size (.int .i64 (flgI true).cls) (.int .i64 (flgI true).tag) (.bool (flgI true).cons) (.slice ab nb cb) (.slice ak nk ck)
  exact bodyPost_ret (results_it rfl _ w.heap.size rfl _ _ _ _ _ _ (put5_heap H5.out _ _ _ _ _)) rfl ⟨⟨_,_,_,_,_,_,rfl,HIT.out.put hL (by omega) _ _ _ _ _⟩,B2.trans (T.below (Nat.le_refl _) B2.size)⟩
theorem structItem_R {L R d n:Nat}{gr:Nat}{ks:List It}{w:World}(h:KidZ L R w gr d ks)(hn:ks.length=n) :
  Calls Tryz.prog 108 #[.slice (some ⟨gr,0,none⟩) n n] w fun e w'=>ItR L R d (strI ks) e w'∧Below w.heap.size w w':=by
 subst hn
 refine (structItem_agg (some ⟨gr,0,none⟩) ks.length ks.length w).mono ?_
 rintro e w1 ⟨rfl,hb⟩
 exact ⟨⟨_,_,_,_,_,_,rfl,(h.kept hb).itz 0 16⟩,hb⟩
theorem ownItem_R {L R d n:Nat}{gr:Nat}{ks:List It}{w:World}(tag:Int)(h:KidZ L R w gr d ks)(hn:ks.length=n) :
  Calls Tryz.prog 66 #[.int .i64 tag,.slice (some ⟨gr,0,none⟩) n n] w fun e w'=>ItR L R d (boxI tag ks) e w'∧Below w.heap.size w w':=by
 subst hn
 refine (ownItem_agg tag (some ⟨gr,0,none⟩) ks.length ks.length w).mono ?_
 rintro e w1 ⟨rfl,hb⟩
 exact ⟨⟨_,_,_,_,_,_,rfl,(h.kept hb).itz 1 tag⟩,hb⟩
end Go.Proofs.YtnmplldhdfingaaGreatDoor
