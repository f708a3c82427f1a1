import Derived.Test.YtmdfbnlgfhjnoaaGreatDoorFD21
import Derived.Test.YtmdfbnlgfhjnoaaGreatDoorFD27
set_option maxRecDepth 10000
set_option maxHeartbeats 8000000
set_option linter.unusedVariables false
namespace Go.Proofs.YtmdfbnlgfhjnoaaGreatDoor
open Go.RowKit
theorem results_it {fn:Func}{t:Tmp}(h:fn.results=#[.cell t 75])(tmps:Array Value)(g:Nat)(ht:tmps.getD t undef=.pointer (some ⟨g,0,none⟩))(w:World)(c0 c1 c2 c3 c4:Value)
  (hb:w.heap[g]? = some (.cells #[c0,c1,c2,c3,c4] 75 (0,0))):(results fn tmps).run Tryz.prog w=.ok (.agg #[c0,c1,c2,c3,c4]) w:=by
 have d0:w.cell? ⟨g,0,none⟩=some c0:=qk hb rfl
 have d1:w.cell? ⟨g,1,none⟩=some c1:=qk hb rfl
 have d2:w.cell? ⟨g,2,none⟩=some c2:=qk hb rfl
 have d3:w.cell? ⟨g,3,none⟩=some c3:=qk hb rfl
 have d4:w.cell? ⟨g,4,none⟩=some c4:=qk hb rfl
 clear hb
 have ht':tmps[t]?.getD undef=.pointer (some ⟨g,0,none⟩):=by rw [← ht]; simp
 simp [results,h,go_sem,ht',d0,d1,d2,d3,d4]
def put5I (w:World)(g:Nat)(u0 u1 u2 u3 u4:Value):World:=((((w.setCell ⟨g,0,none⟩ u0).setCell ⟨g,1,none⟩ u1).setCell ⟨g,2,none⟩ u2).setCell ⟨g,3,none⟩ u3).setCell ⟨g,4,none⟩ u4
theorem put5_heap {w:World}{g t:Nat}{c0 c1 c2 c3 c4:Value}(h:w.heap[g]? = some (.cells #[c0,c1,c2,c3,c4] t (0,0)))(u0 u1 u2 u3 u4:Value):(put5I w g u0 u1 u2 u3 u4).heap[g]? = some (.cells #[u0,u1,u2,u3,u4] t (0,0)) :=
 heap_setCell_same _ _ 4 _ t _ (heap_setCell_same _ _ 3 _ t _ (heap_setCell_same _ _ 2 _ t _ (heap_setCell_same _ _ 1 _ t _ (heap_setCell_same _ _ 0 _ t _ h))))
theorem touch_set {p q:Nat}(w:World)(g j:Nat)(u:Value)(h1:p≤g)(h2:g<q):Touch p q w (w.setCell ⟨g,j,none⟩ u) :=
 ⟨rfl,rfl,rfl,by simp,fun k _ hk=>heap_setCell_other w ⟨g,j,none⟩ k u (by simp; omega)⟩
theorem touch_set1 (w:World)(g j:Nat)(u:Value):Touch g (g+1) w (w.setCell ⟨g,j,none⟩ u):=touch_set w g j u (Nat.le_refl _) (Nat.lt_succ_self _)
theorem put5_touch (w:World)(g:Nat)(u0 u1 u2 u3 u4:Value):Touch g (g+1) w (put5I w g u0 u1 u2 u3 u4) :=
 ((((touch_set1 w g 0 u0).trans (touch_set1 _ g 1 u1)).trans (touch_set1 _ g 2 u2)).trans (touch_set1 _ g 3 u3)).trans (touch_set1 _ g 4 u4)
structure Box5 (w:World)(g:Nat):Prop where
 b:w.heap[g]? = some (.cells #[.int .i64 0,.int .i64 0,.bool false,.slice none 0 0,.slice none 0 0] 75 (0,0))
 c0:w.cell? ⟨g,0,none⟩=some (.int .i64 0)
 c1:w.cell? ⟨g,1,none⟩=some (.int .i64 0)
 c2:w.cell? ⟨g,2,none⟩=some (.bool false)
 c3:w.cell? ⟨g,3,none⟩=some (.slice none 0 0)
 c4:w.cell? ⟨g,4,none⟩=some (.slice none 0 0)
 f0:w.frozen? ⟨g,0,none⟩=false
 f1:w.frozen? ⟨g,1,none⟩=false
 f2:w.frozen? ⟨g,2,none⟩=false
 f3:w.frozen? ⟨g,3,none⟩=false
 f4:w.frozen? ⟨g,4,none⟩=false
theorem Box5.of {w:World}{g:Nat}(h:w.heap[g]? = some (.cells #[.int .i64 0,.int .i64 0,.bool false,.slice none 0 0,.slice none 0 0] 75 (0,0))):Box5 w g :=
 ⟨h,(cell_of_row _ g 0 _ 75 (0,0) h).trans rfl,(cell_of_row _ g 1 _ 75 (0,0) h).trans rfl,(cell_of_row _ g 2 _ 75 (0,0) h).trans rfl,(cell_of_row _ g 3 _ 75 (0,0) h).trans rfl,(cell_of_row _ g 4 _ 75 (0,0) h).trans rfl,
  frozen_of_row w g 0 _ 75 h,frozen_of_row w g 1 _ 75 h,frozen_of_row w g 2 _ 75 h,frozen_of_row w g 3 _ 75 h,frozen_of_row w g 4 _ 75 h⟩
def box5 (w:World):World:=w.alloc (.cells #[.int .i64 0,.int .i64 0,.bool false,.slice none 0 0,.slice none 0 0] 75)
theorem box5_new (w:World):(box5 w).heap[w.heap.size]? = some (.cells #[.int .i64 0,.int .i64 0,.bool false,.slice none 0 0,.slice none 0 0] 75 (0,0)):=heap_alloc_new w _
theorem box5_below (w:World):Below w.heap.size w (box5 w):=(Below.refl _ _).alloc (Nat.le_refl _) _
theorem box5_size (w:World):(box5 w).heap.size=w.heap.size+1:=by unfold box5; simp
def numI (n:Int):It:=.mk 0 2 false (wbL n) []
def bytI (bs:List Int):It:=.mk 0 4 false bs []
def boxI (tag:Int)(ks:List It):It:=.mk 1 tag true [] ks
theorem ownItem_any (tag:Int)(a:Option Addr)(n c:Nat)(ks:List It)(w:World) :
  Calls Tryz.prog 59 #[.int .i64 tag,.slice a n c] w fun e w'=>e=.returned (itv (boxI tag ks) none 0 0 a n c)∧Below w.heap.size w w':=by
 go_enter Tryz.func59,Tryz.ntmps59
 go_wp2_with fail
 try simp only [Exit.inBlock,Exit.then]
 exact bodyPost_ret (results_it rfl _ w.heap.size rfl _ _ _ _ _ _ (heap_alloc_new w _)) rfl ⟨rfl,(Below.refl _ _).alloc (Nat.le_refl _) _⟩
theorem bytesItem_any (a:Option Addr)(n c:Nat)(bs:List Int)(w:World) :
  Calls Tryz.prog 60 #[.slice a n c] w fun e w'=>e=.returned (itv (bytI bs) a n c none 0 0)∧Below w.heap.size w w':=by
 go_enter Tryz.func60,Tryz.ntmps60
 go_wp2_with fail
 try simp only [Exit.inBlock,Exit.then]
 exact bodyPost_ret (results_it rfl _ w.heap.size rfl _ _ _ _ _ _ (heap_alloc_new w _)) rfl ⟨rfl,(Below.refl _ _).alloc (Nat.le_refl _) _⟩
theorem in_at {g k n lo hi:Nat}(h1:lo≤g)(h2:g<hi):In (some ⟨g,k,none⟩) n lo hi:=by
 intro b off ha _
 simp at ha
 omega
theorem Row.blk {w:World}{g k n:Nat}{bs:List Int}(h:Row w (some ⟨g,k,none⟩) n bs)(hn:0<n):g<w.heap.size:=by
 obtain ⟨b,off,ha,hb,_⟩:=h.get 0 hn
 simp at ha
 omega
theorem numberItem_any (n:Int)(w:World)(h0 : -9223372036854775808≤n)(h1:n≤9223372036854775807) :
  Calls Tryz.prog 101 #[.int .i64 n] w fun e w'=>∃ g k,e=.returned (itv (numI n) (some ⟨g,k,none⟩) (wsz n) (wsz n) none 0 0)∧w.heap.size≤g∧Row w' (some ⟨g,k,none⟩) (wsz n) (wbL n)∧Below w.heap.size w w':=by
 have hsz:=wsz_bd n
 go_enter Tryz.func101,Tryz.ntmps101
 go_wp2_with fail
 have hbx:=box5_below w
 have hnx:=box5_new w
 have hsx:=box5_size w
 obtain ⟨wb,hwb⟩:∃ wb,wb=box5 w:=⟨_,rfl⟩
 rw [← hwb] at hbx hnx hsx
 unfold box5 at hwb
 rw [← hwb]
 clear hwb
 refine (wholeBytes_any n _ h0 h1).mono ?_
 rintro e w1 ⟨g,k,rfl,hg,hr,hb1⟩
 have hn1:=(hb1.block _ (by omega)).trans hnx
 have B1:Below w.heap.size w w1:=hbx.trans (hb1.mono hbx.size)
 obtain ⟨_,x0,x1,x2,x3,x4,y0,y1,y2,y3,y4⟩:=Box5.of hn1
 have HR:Hid (Row w1 (some ⟨g,k,none⟩) (wsz n) (wbL n)):=hr
 have HN:Hid (_):=hn1
 have HB:Hid (Below w.heap.size w w1):=B1
 have hgl:=hr.blk (by omega)
 have hs1:=hb1.size
 clear hr hn1 B1 hb1 hnx hbx
 go_wp2_with fail
 try simp only [Exit.inBlock,Exit.then]
 refine bodyPost_ret (results_it rfl _ w.heap.size rfl _ _ _ _ _ _ (put5_heap HN.out _ _ _ _ _)) rfl ⟨g,k,rfl,by omega,?_,?_⟩
 ·exact HR.out.touch (in_at (lo:=g) (hi:=g+1) (Nat.le_refl _) (by omega)) (.inr (by omega)) (put5_touch w1 w.heap.size _ _ _ _ _)
 ·exact HB.out.trans ((put5_touch w1 w.heap.size _ _ _ _ _).below (Nat.le_refl _) (by omega))
theorem digestBytes_in (v:Int)(w:World)(h0:0≤v)(h1:v≤18446744073709551615) :
  Calls Tryz.prog 183 #[.int .u64 v] w fun e w'=>∃ g,e=.returned (.slice (some ⟨g,0,none⟩) 8 8)∧w.heap.size≤g∧Row w' (some ⟨g,0,none⟩) 8 (eightI v)∧Below w.heap.size w w':=by
 obtain ⟨n,rfl⟩:=Int.eq_ofNat_of_zero_le h0
 go_enter Tryz.func183,Tryz.ntmps183
 go_wp2_with fail
 refine (eight_any n _ h1).mono ?_
 rintro e w1 ⟨x0,x1,x2,x3,x4,x5,x6,x7,rfl,hx,hb1⟩
 have HX:Hid (_=_):=hx
 have HB1:Hid (_):=hb1
 clear hx hb1
 go_wp2
 go_ret
 refine ⟨w1.heap.size,rfl,HB1.out.size,⟨eightI_len _,fun k hk=>⟨w1.heap.size,0,rfl,by simp,?_⟩,eightI_byte _⟩,HB1.out.alloc HB1.out.size _⟩
 rw [Nat.zero_add,cell_of_row _ w1.heap.size k _ 151 _ (heap_alloc_new w1 _)]
 have e:eightI (n:Int) = [x0,x1,x2,x3,x4,x5,x6,x7]:=by rw [HX.out]; rfl
 rw [e]
 match k,hk with
 | 0,_ | 1,_ | 2,_ | 3,_ | 4,_ | 5,_ | 6,_ | 7,_=>rfl
theorem digestItem_any (v:Int)(w:World)(h0:0≤v)(h1:v≤18446744073709551615) :
  Calls Tryz.prog 155 #[.int .u64 v] w fun e w'=>∃ g,e=.returned (itv (bytI (eightI v)) (some ⟨g,0,none⟩) 8 8 none 0 0)∧w.heap.size≤g∧Row w' (some ⟨g,0,none⟩) 8 (eightI v)∧Below w.heap.size w w':=by
 go_enter Tryz.func155,Tryz.ntmps155
 go_wp2_with fail
 have hbx:=box5_below w
 have hnx:=box5_new w
 have hsx:=box5_size w
 obtain ⟨wb,hwb⟩:∃ wb,wb=box5 w:=⟨_,rfl⟩
 rw [← hwb] at hbx hnx hsx
 unfold box5 at hwb
 rw [← hwb]
 clear hwb
 refine (digestBytes_in v _ h0 h1).mono ?_
 rintro e w1 ⟨g,rfl,hg,hr,hb1⟩
 have hs1:=hb1.size
 go_wp2_with fail
 refine (bytesItem_any (some ⟨g,0,none⟩) 8 8 (eightI v) _).mono ?_
 rintro e w2 ⟨rfl,hb2⟩
 have hs2:=hb2.size
 have hn1:=(hb2.block _ (by omega)).trans ((hb1.block _ (by omega)).trans hnx)
 have B1:Below w.heap.size w w2:=(hbx.trans (hb1.mono hbx.size)).trans (hb2.mono (by omega))
 obtain ⟨_,x0,x1,x2,x3,x4,y0,y1,y2,y3,y4⟩:=Box5.of hn1
 have HR:Hid (Row w2 (some ⟨g,0,none⟩) 8 (eightI v)):=hr.kept hb2
 have HN:Hid (_):=hn1
 have HB:Hid (Below w.heap.size w w2):=B1
 have hgl:=hr.blk (by omega)
 clear hr hn1 B1 hb1 hb2 hnx hbx
 unfold itv bytI
 simp only [It.cls,It.tag,It.cons]
 go_wp2_with fail
 try simp only [Exit.inBlock,Exit.then]
 refine bodyPost_ret (results_it rfl _ w.heap.size rfl _ _ _ _ _ _ (put5_heap HN.out _ _ _ _ _)) rfl ⟨g,rfl,by omega,?_,?_⟩
 ·exact HR.out.touch (in_at (lo:=g) (hi:=g+1) (Nat.le_refl _) (by omega)) (.inr (by omega)) (put5_touch w2 w.heap.size _ _ _ _ _)
 ·exact HB.out.trans ((put5_touch w2 w.heap.size _ _ _ _ _).below (Nat.le_refl _) (by omega))
theorem Own.touch5 {B lo hi:Nat}{w w':World}{a:Option Addr}{n cap:Nat}{bs:List Int}(h:Own B w a n cap bs)(ht:Touch lo hi w w')(hd:hi≤B):Own B w' a n cap bs:=by
 refine ⟨⟨h.row.1,?_⟩,h.byte⟩
 rcases h.row.2 with hn' | ⟨g,cap',cur,hv,hbb,hgg,rest⟩
 ·exact .inl hn'
 ·exact .inr ⟨g,cap',cur,hv,hbb,(ht.block g (Array.getElem?_eq_some_iff.1 hgg).1 (by omega)).trans hgg,rest⟩
theorem l2Leaf_any (tag:Int)(a:Option Addr)(n c:Nat)(bs:List Int)(w:World)(h:Row w a n bs)(hc:a=none→c=0)(hn:n≤1000) :
  Calls Tryz.prog 136 #[.int .i64 0,.int .i64 tag,.slice a n c] w fun e w'=>∃ a' c',e=.returned (itv (.mk 0 tag false bs []) a' n c' none 0 0)∧Own (w.heap.size+1) w' a' n c' bs∧Below w.heap.size w w':=by
 obtain ⟨i0,hi,hz0,hz1,hz2⟩:=info_parts Tryz.info5
 have hbx:=box5_below w
 have hnx:=box5_new w
 have hsx:=box5_size w
 have hal:Below (box5 w).heap.size (box5 w) ((box5 w).alloc (.cells #[] 5)):=(Below.refl _ _).alloc (Nat.le_refl _) _
 have hor0:Own (w.heap.size+1) ((box5 w).alloc (.cells #[] 5)) (some ⟨w.heap.size+1,0,none⟩) 0 0 []:=own_zero _ _ _ (by rw [hsx]) (by rw [hsx]; exact Nat.le_refl _)
 have hB1:Below w.heap.size w ((box5 w).alloc (.cells #[] 5)):=hbx.trans (hal.mono hbx.size)
 have hn1:=(hal.block _ (by omega)).trans hnx
 have HR:Hid (Row ((box5 w).alloc (.cells #[] 5)) a n bs):=h.kept (hB1.mono (Nat.le_refl _))
 have HN:Hid (_):=hn1
 have hsz1:((box5 w).alloc (.cells #[] 5)).heap.size=w.heap.size+2:=by simp [hsx]
 have HO:Hid (_):=hor0
 have HB1:Hid (_):=hB1
 clear h hal hbx hnx hn1 hor0 hB1
 unfold box5 at HR HN HO HB1 hsz1 hsx
 go_enter Tryz.func136,Tryz.ntmps136
 go_wp2_with (at_builtin; refine wpList_append_row _ rfl (.tmp 9) (.tmp 10) 32 rfl (w.heap.size+1) i0 Tryz.underlying32 hi hz0 hz1 hz2 _ _ _ rfl HO.out.row a n c bs rfl HR.out hc (by omega) (by rw [hsz1]; omega) ?_; intro v1 w1 hv1 hg1; obtain ⟨a1,c1,rfl,ho1⟩:=own_appended (xs:=[]) (ys:=bs) hv1 HO.out.byte HR.out.byte; have hb1:Below w.heap.size w w1:=below_appended HB1.out HB1.out.size (HO.out.mono (by omega)).row hg1; have ho1':Own (w.heap.size+1) w1 a1 n c1 bs:=(by simpa using ho1); have hn2:w1.heap[w.heap.size]? = some (.cells #[.int .i64 0,.int .i64 0,.bool false,.slice none 0 0,.slice none 0 0] 75 (0,0)):=(hg1.block w.heap.size (by rw [hsz1]; omega) (by show some w.heap.size≠some (w.heap.size+1); simp)).trans HN.out; obtain ⟨_,x0,x1,x2,x3,x4,y0,y1,y2,y3,y4⟩:=Box5.of hn2; have HN2:Hid (_):=hn2; have HB2:Hid (Below w.heap.size w w1):=hb1; have HO2:Hid (Own (w.heap.size+1) w1 a1 n c1 bs):=ho1'; have hs1:=hg1.size; clear hn2 hb1 ho1 ho1' hv1 hg1)
 try simp only [Exit.inBlock,Exit.then]
 refine bodyPost_ret (results_it rfl _ w.heap.size rfl _ _ _ _ _ _ (put5_heap HN2.out _ _ _ _ _)) rfl ⟨a1,c1,by first | rfl | simp [itv,It.cls,It.tag,It.cons],?_,?_⟩
 ·exact HO2.out.touch5 (put5_touch w1 w.heap.size _ _ _ _ _) (by omega)
 ·exact HB2.out.trans ((put5_touch w1 w.heap.size _ _ _ _ _).below (Nat.le_refl _) HB2.out.size)
theorem l9Bytes_any (a:Option Addr)(n c:Nat)(bs:List Int)(w:World)(h:Row w a n bs)(hc:a=none→c=0)(hn:n≤1000) :
  Calls Tryz.prog 83 #[.slice a n c] w fun e w'=>∃ a c,e=.returned (itv (bytI bs) a n c none 0 0)∧Own (w.heap.size+1) w' a n c bs∧Below w.heap.size w w':=by
 have hbx:=box5_below w
 have hnx:=box5_new w
 have hsx:=box5_size w
 obtain ⟨wb,hwb⟩:∃ wb,wb=box5 w:=⟨_,rfl⟩
 rw [← hwb] at hbx hnx hsx
 unfold box5 at hwb
 go_enter Tryz.func83,Tryz.ntmps83
 go_wp2_with fail
 rw [← hwb]
 clear hwb
 have hnx1:=hnx
 have B1:=hbx
 refine (l2Leaf_any 4 a n c bs _ (h.kept hbx) hc hn).mono ?_
 rintro e w2 ⟨a2,c2,rfl,ho2,hb2⟩
 have hs2:=hb2.size
 have hn1:=(hb2.block _ (by omega)).trans (hnx1)
 have B2:Below w.heap.size w w2:=B1.trans (hb2.mono (by omega))
 obtain ⟨_,x0,x1,x2,x3,x4,y0,y1,y2,y3,y4⟩:=Box5.of hn1
 have HO:Hid (Own (w.heap.size+1) w2 a2 n c2 bs):=ho2.mono (by omega)
 have HN:Hid (_):=hn1
 have HB:Hid (Below w.heap.size w w2):=B2
 clear ho2 hn1 B2 B1 hb2 hnx hbx hnx1
 unfold itv
 simp only [It.cls,It.tag,It.cons]
 go_wp2_with fail
 try simp only [Exit.inBlock,Exit.then]
 refine bodyPost_ret (results_it rfl _ w.heap.size rfl _ _ _ _ _ _ (put5_heap HN.out _ _ _ _ _)) rfl ⟨a2,c2,rfl,?_,?_⟩
 ·exact HO.out.touch5 (put5_touch w2 w.heap.size _ _ _ _ _) (by omega)
 ·exact HB.out.trans ((put5_touch w2 w.heap.size _ _ _ _ _).below (Nat.le_refl _) HB.out.size)
theorem l9Num_any (n:Int)(w:World) :
  Calls Tryz.prog 81 #[.int .i64 n] w fun e w'=>∃ a c,e=.returned (itv (numI n) a (wsz n) c none 0 0)∧Own (w.heap.size+1) w' a (wsz n) c (wbL n)∧Below w.heap.size w w':=by
 have hbx:=box5_below w
 have hnx:=box5_new w
 have hsx:=box5_size w
 obtain ⟨wb,hwb⟩:∃ wb,wb=box5 w:=⟨_,rfl⟩
 rw [← hwb] at hbx hnx hsx
 unfold box5 at hwb
 go_enter Tryz.func81,Tryz.ntmps81
 go_wp2_with fail
 rw [← hwb]
 clear hwb
 have hsz:=wsz_bd n
 refine (l3Number_any n _).mono ?_
 rintro e w1 ⟨a1,c1,rfl,ho1,hb1⟩
 have hs1:=hb1.size
 have hnx1:=(hb1.block _ (by omega)).trans hnx
 have B1:Below w.heap.size w w1:=hbx.trans (hb1.mono hbx.size)
 go_wp2_with fail
 refine (l2Leaf_any 2 a1 (wsz n) c1 (wbL n) _ ho1.toRow ho1.nil (by omega)).mono ?_
 rintro e w2 ⟨a2,c2,rfl,ho2,hb2⟩
 clear hb1 ho1
 have hs2:=hb2.size
 have hn1:=(hb2.block _ (by omega)).trans (hnx1)
 have B2:Below w.heap.size w w2:=B1.trans (hb2.mono (by omega))
 obtain ⟨_,x0,x1,x2,x3,x4,y0,y1,y2,y3,y4⟩:=Box5.of hn1
 have HO:Hid (Own (w.heap.size+1) w2 a2 (wsz n) c2 (wbL n)):=ho2.mono (by omega)
 have HN:Hid (_):=hn1
 have HB:Hid (Below w.heap.size w w2):=B2
 clear ho2 hn1 B2 B1 hb2 hnx hbx hnx1
 unfold itv
 simp only [It.cls,It.tag,It.cons]
 go_wp2_with fail
 try simp only [Exit.inBlock,Exit.then]
 refine bodyPost_ret (results_it rfl _ w.heap.size rfl _ _ _ _ _ _ (put5_heap HN.out _ _ _ _ _)) rfl ⟨a2,c2,rfl,?_,?_⟩
 ·exact HO.out.touch5 (put5_touch w2 w.heap.size _ _ _ _ _) (by omega)
 ·exact HB.out.trans ((put5_touch w2 w.heap.size _ _ _ _ _).below (Nat.le_refl _) HB.out.size)
open Go.RowKit
structure RowI (S:Nat→Prop)(w:World)(a:Option Addr)(n:Nat)(bs:List Int):Prop where
 row:Row w a n bs
 lt:∀ x,a=some x→0<n→S x.block
theorem RowI.touch {S P:Nat→Prop}{w w':World}{a:Option Addr}{n:Nat}{bs:List Int}(h:RowI S w a n bs)(hd:∀ k,S k→¬ P k)(ht:TouchX P w w'):RowI S w' a n bs:=by
 refine ⟨⟨h.row.len,fun k hk=>?_,h.row.byte⟩,h.lt⟩
 obtain ⟨b,off,ha,hlt,hc⟩:=h.row.get k hk
 have hb:=ht.block b hlt (hd b (h.lt _ ha (by omega)))
 exact ⟨b,off,ha,Nat.lt_of_lt_of_le hlt ht.size,(World.cell?_of_block (a:=⟨b,off+k,none⟩) hb).trans hc⟩
theorem RowI.mono {S T:Nat→Prop}{w:World}{a:Option Addr}{n:Nat}{bs:List Int}(h:RowI S w a n bs)(hs:∀ k,S k→T k):RowI T w a n bs:=⟨h.row,fun x hx h0=>hs _ (h.lt x hx h0)⟩
theorem Own.toI {B:Nat}{w:World}{a:Option Addr}{n c:Nat}{bs:List Int}(h:Own B w a n c bs):RowI (fun b=>B≤b∧b<w.heap.size) w a n bs:=⟨h.toRow,fun x hx h0=>by
 have:=h.row.lt x.block (by rw [hx]; rfl)
 exact ⟨this.1,this.2⟩⟩
def KidsI:Nat→(Nat→Prop)→World→Option Addr→Nat→List It→Prop
 | 0,_,_,_,_,_=>False
 | d+1,S,w,a,n,xs=>xs.length=n∧n≤9223372036854775807∧∀ k,k<n→∃ b off,a=some ⟨b,off,none⟩∧b<w.heap.size∧S b∧∃ ab nb cb ak nk ck,
   w.cell? ⟨b,off+k * 5,none⟩=some (.int .i64 (xs.getD k default).cls)∧w.cell? ⟨b,off+k * 5+1,none⟩=some (.int .i64 (xs.getD k default).tag)∧w.cell? ⟨b,off+k * 5+2,none⟩=some (.bool (xs.getD k default).cons)
   ∧ w.cell? ⟨b,off+k * 5+3,none⟩=some (.slice ab nb cb)∧w.cell? ⟨b,off+k * 5+4,none⟩=some (.slice ak nk ck)
   ∧ RowI S w ab nb (xs.getD k default).body∧(ab=none→cb=0)∧nb≤9223372036854775807∧KidsI d S w ak nk (xs.getD k default).kids
theorem KidsI.kids {d:Nat}:∀ {S:Nat→Prop} {w:World} {a:Option Addr} {n:Nat} {xs:List It},KidsI d S w a n xs→Kids d w a n xs:=by
 induction d with
 | zero=>intro _ _ _ _ _ h; exact h.elim
 | succ d ih =>
  intro S w a n xs h
  refine ⟨h.1,h.2.1,fun k hk=>?_⟩
  obtain ⟨b,off,ha,hlt,_,ab,nb,cb,ak,nk,ck,c0,c1,c2,c3,c4,hr,hn,hm,hk⟩:=h.2.2 k hk
  exact ⟨b,off,ha,hlt,ab,nb,cb,ak,nk,ck,c0,c1,c2,c3,c4,hr.row,hn,hm,ih hk⟩
theorem KidsI.mono {d:Nat}:∀ {S T:Nat→Prop} {w:World} {a:Option Addr} {n:Nat} {xs:List It},KidsI d S w a n xs→(∀ k,S k→T k)→KidsI d T w a n xs:=by
 induction d with
 | zero=>intro _ _ _ _ _ _ h; exact h.elim
 | succ d ih =>
  intro S T w a n xs h hs
  refine ⟨h.1,h.2.1,fun k hk=>?_⟩
  obtain ⟨b,off,ha,hlt,hS,ab,nb,cb,ak,nk,ck,c0,c1,c2,c3,c4,hr,hn,hm,hk⟩:=h.2.2 k hk
  exact ⟨b,off,ha,hlt,hs b hS,ab,nb,cb,ak,nk,ck,c0,c1,c2,c3,c4,hr.mono hs,hn,hm,ih hk hs⟩
theorem KidsI.more {d:Nat}:∀ {S:Nat→Prop} {w:World} {a:Option Addr} {n:Nat} {xs:List It},KidsI d S w a n xs→KidsI (d+1) S w a n xs:=by
 induction d with
 | zero=>intro _ _ _ _ _ h; exact h.elim
 | succ d ih =>
  intro S w a n xs h
  refine ⟨h.1,h.2.1,fun k hk=>?_⟩
  obtain ⟨b,off,ha,hlt,hS,ab,nb,cb,ak,nk,ck,c0,c1,c2,c3,c4,hr,hn,hm,hk⟩:=h.2.2 k hk
  exact ⟨b,off,ha,hlt,hS,ab,nb,cb,ak,nk,ck,c0,c1,c2,c3,c4,hr,hn,hm,ih hk⟩
theorem KidsI.touch {d:Nat}:∀ {S P:Nat→Prop} {w w':World} {a:Option Addr} {n:Nat} {xs:List It},KidsI d S w a n xs→(∀ k,S k→¬ P k)→TouchX P w w'→KidsI d S w' a n xs:=by
 induction d with
 | zero=>intro _ _ _ _ _ _ _ h; exact h.elim
 | succ d ih =>
  intro S P w w' a n xs h hd ht
  refine ⟨h.1,h.2.1,fun k hk=>?_⟩
  obtain ⟨b,off,ha,hlt,hS,ab,nb,cb,ak,nk,ck,c0,c1,c2,c3,c4,hr,hn,hm,hk⟩:=h.2.2 k hk
  have cc:∀ j,w'.cell? ⟨b,j,none⟩=w.cell? ⟨b,j,none⟩:=fun j=>World.cell?_of_block (a:=⟨b,j,none⟩) (ht.block b hlt (hd b hS))
  exact ⟨b,off,ha,Nat.lt_of_lt_of_le hlt ht.size,hS,ab,nb,cb,ak,nk,ck,(cc _).trans c0,(cc _).trans c1,(cc _).trans c2,(cc _).trans c3,(cc _).trans c4,hr.touch hd ht,hn,hm,ih hk hd ht⟩
theorem KidsI.none (d:Nat)(S:Nat→Prop)(w:World)(a:Option Addr):KidsI (d+1) S w a 0 []:=⟨rfl,by decide,fun k hk=>absurd hk (Nat.not_lt_zero _)⟩
structure ItV (d:Nat)(S:Nat→Prop)(w:World)(x:It)(ab:Option Addr)(nb cb:Nat)(ak:Option Addr)(nk ck:Nat):Prop where
 row:RowI S w ab nb x.body
 nil:ab=none→cb=0
 max:nb≤9223372036854775807
 kids:KidsI d S w ak nk x.kids
theorem ItV.touch {d:Nat}{S P:Nat→Prop}{w w':World}{x:It}{ab:Option Addr}{nb cb:Nat}{ak:Option Addr}{nk ck:Nat}(h:ItV d S w x ab nb cb ak nk ck)(hd:∀ k,S k→¬ P k)(ht:TouchX P w w'):ItV d S w' x ab nb cb ak nk ck:=⟨h.row.touch hd ht,h.nil,h.max,h.kids.touch hd ht⟩
theorem ItV.kept {d:Nat}{S:Nat→Prop}{w w':World}{x:It}{ab:Option Addr}{nb cb:Nat}{ak:Option Addr}{nk ck:Nat}(h:ItV d S w x ab nb cb ak nk ck)(hb:Below w.heap.size w w'):ItV d S w' x ab nb cb ak nk ck:=h.touch (P:=fun _=>False) (fun _ _ h=>h) (TouchX.of_below hb)
theorem ItV.mono {d:Nat}{S T:Nat→Prop}{w:World}{x:It}{ab:Option Addr}{nb cb:Nat}{ak:Option Addr}{nk ck:Nat}(h:ItV d S w x ab nb cb ak nk ck)(hs:∀ k,S k→T k):ItV d T w x ab nb cb ak nk ck:=⟨h.row.mono hs,h.nil,h.max,h.kids.mono hs⟩
theorem ItV.more {d:Nat}{S:Nat→Prop}{w:World}{x:It}{ab:Option Addr}{nb cb:Nat}{ak:Option Addr}{nk ck:Nat}(h:ItV d S w x ab nb cb ak nk ck):ItV (d+1) S w x ab nb cb ak nk ck:=⟨h.row,h.nil,h.max,h.kids.more⟩
def itc (x:It)(ab:Option Addr)(nb cb:Nat)(ak:Option Addr)(nk ck:Nat):List Value:=[.int .i64 x.cls,.int .i64 x.tag,.bool x.cons,.slice ab nb cb,.slice ak nk ck]
structure OwnIts (d:Nat)(S:Nat→Prop)(w:World)(a:Option Addr)(n c:Nat)(xs:List It):Prop where
 len:xs.length=n
 max:n≤9223372036854775807
 own:∃ vs,w.ownsRow 0 75 5 (.slice a n c) n vs∧∀ k,k<n→∃ ab nb cb ak nk ck,(∀ j,j<5→vs[k * 5+j]? = (itc (xs.getD k default) ab nb cb ak nk ck)[j]?)∧ItV d S w (xs.getD k default) ab nb cb ak nk ck
 ap:∀ b,(Value.slice a n c).ownBlock=some b→¬ S b
theorem OwnIts.nil (d:Nat)(w:World):OwnIts d (fun _=>False) w none 0 0 []:=⟨rfl,by decide,⟨[],⟨rfl,.inl ⟨rfl,rfl⟩⟩,fun k hk=>absurd hk (Nat.not_lt_zero _)⟩,fun b hb=>by cases hb⟩
theorem OwnIts.touch {d:Nat}{S P:Nat→Prop}{w w':World}{a:Option Addr}{n c:Nat}{xs:List It}(h:OwnIts d S w a n c xs)(hd:∀ k,S k→¬ P k)(hr:∀ b,(Value.slice a n c).ownBlock=some b→¬ P b)(ht:TouchX P w w'):OwnIts d S w' a n c xs:=by
 obtain ⟨h0,h1,⟨vs,hv,h2⟩,h3⟩:=h
 refine ⟨h0,h1,⟨vs,ownsRow_moveX (S:=fun b=>(Value.slice a n c).ownBlock=some b) hv (fun _ h=>h) hr ht,fun k hk=>?_⟩,h3⟩
 obtain ⟨ab,nb,cb,ak,nk,ck,e,hi⟩:=h2 k hk
 exact ⟨ab,nb,cb,ak,nk,ck,e,hi.touch hd ht⟩
theorem OwnIts.kept {d:Nat}{S:Nat→Prop}{w w':World}{a:Option Addr}{n c:Nat}{xs:List It}(h:OwnIts d S w a n c xs)(hb:Below w.heap.size w w'):OwnIts d S w' a n c xs:=h.touch (P:=fun _=>False) (fun _ _ h=>h) (fun _ _ h=>h) (TouchX.of_below hb)
theorem OwnIts.mono {d:Nat}{S T:Nat→Prop}{w:World}{a:Option Addr}{n c:Nat}{xs:List It}(h:OwnIts d S w a n c xs)(hs:∀ k,S k→T k)(hr:∀ b,(Value.slice a n c).ownBlock=some b→¬ T b):OwnIts d T w a n c xs:=by
 obtain ⟨h0,h1,⟨vs,hv,h2⟩,h3⟩:=h
 refine ⟨h0,h1,⟨vs,hv,fun k hk=>?_⟩,hr⟩
 obtain ⟨ab,nb,cb,ak,nk,ck,e,hi⟩:=h2 k hk
 exact ⟨ab,nb,cb,ak,nk,ck,e,hi.mono hs⟩
theorem OwnIts.kids {d:Nat}{S T:Nat→Prop}{w:World}{a:Option Addr}{n c:Nat}{xs:List It}(h:OwnIts d S w a n c xs)(hs:∀ k,S k→T k)(hr:∀ b,(Value.slice a n c).ownBlock=some b→T b):KidsI (d+1) T w a n xs:=by
 obtain ⟨h0,h1,⟨vs,hv,h2⟩,h3⟩:=h
 refine ⟨h0,h1,fun k hk=>?_⟩
 obtain ⟨ab,nb,cb,ak,nk,ck,e,hi⟩:=h2 k hk
 rcases hv.2 with ⟨_,hn⟩ | ⟨g,cap,cur,hva,_,hh,_⟩
 ·omega
 ·simp only [Value.slice.injEq] at hva
  obtain ⟨rfl,_,rfl⟩:=hva
  have cc:∀ j,j<5→w.cell? ⟨g,0+k * 5+j,none⟩=(itc (xs.getD k default) ab nb cb ak nk ck)[j]?:=fun j hj=>by
   rw [Nat.zero_add,hv.cellAt _ (by omega)]
   exact e j hj
  exact ⟨g,0,rfl,(Array.getElem?_eq_some_iff.1 hh).1,hr g rfl,ab,nb,cb,ak,nk,ck,cc 0 (by omega),cc 1 (by omega),cc 2 (by omega),cc 3 (by omega),cc 4 (by omega),hi.row.mono hs,hi.nil,hi.max,hi.kids.mono hs⟩
theorem getI_last (xs:List It)(y:It):(xs++[y]).getD xs.length default=y:=by simp
theorem getI_more (xs:List It)(y:It)(k:Nat)(h:k<xs.length):(xs++[y]).getD k default=xs.getD k default:=by simp [List.getElem?_append_left h,h]
theorem OwnIts.appended {d:Nat}{S T:Nat→Prop}{w w1:World}{a:Option Addr}{n c:Nat}{xs:List It}{y:It}{ab:Option Addr}{nb cb:Nat}{ak:Option Addr}{nk ck:Nat}{g' c':Nat}
  (h:OwnIts d S w a n c xs) (hy:ItV d T w y ab nb cb ak nk ck) (hs:∀ b,S b→T b) (hr:∀ b,(Value.slice a n c).ownBlock=some b→¬ T b) (hlt:∀ b,T b→b<w.heap.size) (hn:n+1≤9223372036854775807)
  {vs:List Value} (hv0:w.ownsRow 0 75 5 (.slice a n c) n vs) (hv:w1.ownsRow 0 75 5 (.slice (some ⟨g',0,none⟩) (n+1) c') (n+1) (vs++itc y ab nb cb ak nk ck)) (hg:w.grownBy w1 (Value.slice a n c).ownBlock) (hl:(Value.slice a n c).ownBlock=some g'∨g'=w.heap.size):OwnIts d T w1 (some ⟨g',0,none⟩) (n+1) c' (xs++[y]):=by
 obtain ⟨h0,h1,⟨us,hu,h2⟩,h3⟩:=h
 have euv:us=vs:=by
  rcases hu.2 with ⟨h4,h5⟩ | ⟨g1,cap1,cur1,e1,_,hh1,_,_,_,ht1⟩
  ·have q1:=hu.1
   have q2:=hv0.1
   rw [h5] at q1 q2
   exact (List.eq_nil_of_length_eq_zero (by omega)).trans (List.eq_nil_of_length_eq_zero (by omega)).symm
  ·rcases hv0.2 with ⟨h4,h5⟩ | ⟨g2,cap2,cur2,e2,_,hh2,_,_,_,ht2⟩
   ·rw [h4] at e1; cases e1
   ·rw [e1] at e2
    simp only [Value.slice.injEq,Option.some.injEq,Addr.mk.injEq,and_true] at e2
    rw [e2.1] at hh1
    rw [hh1] at hh2
    injection hh2 with hh2
    injection hh2 with hh2
    rw [← ht1,← ht2,hh2]
 subst euv
 have ht:TouchX (fun b=>(Value.slice a n c).ownBlock=some b) w w1:=touchX_g hg (fun k hk=>hk)
 have hd:∀ b,T b→¬ (Value.slice a n c).ownBlock=some b:=fun b hb e=>hr b e hb
 have hul:us.length=n * 5:=hu.1
 refine ⟨by simp [h0],hn,⟨_,hv,fun k hk=>?_⟩,fun b hb hT=>?_⟩
 ·by_cases e:k=n
  ·subst e
   have e2:(xs++[y]).getD k default=y:=by rw [← h0]; exact getI_last xs y
   rw [e2]
   refine ⟨ab,nb,cb,ak,nk,ck,fun j hj=>?_,hy.touch hd ht⟩
   rw [List.getElem?_append_right (by omega)]
   congr 1
   omega
  ·have e2:(xs++[y]).getD k default=xs.getD k default:=getI_more xs y k (by omega)
   rw [e2]
   obtain ⟨ab,nb,cb,ak,nk,ck,e3,hi⟩:=h2 k (by omega)
   refine ⟨ab,nb,cb,ak,nk,ck,fun j hj=>?_,(hi.mono hs).touch hd ht⟩
   rw [List.getElem?_append_left (by omega)]
   exact e3 j hj
 ·have:g'=b:=by injection hb
  rw [← this] at hT
  rcases hl with hl | hl
  ·exact hr g' hl hT
  ·have:=hlt g' hT
   omega
open Go.RowKit
def strI (ks:List It):It:=.mk 0 16 true [] ks
def lstI (ks:List It):It:=.mk 0 17 true [] ks
open Go.ChangeShapes Go.WideShapes Go.ChangeAt Go.RowKit
set_option maxRecDepth 20000 in
theorem open_sigN {H:Type}{enc:TypeId × Value→H}{W:World}{fuel:Nat}{cs:List Value}{x:DataW H × List MemPlace}(h:DataW.trod enc Tryz.prog W 0 (fun _=>true) true fuel 32 cs=some x):∃ a n c bs,cs = [.slice a n c]∧Row W a n bs∧n≤9223372036854775807∧(a=none→c=0):=by
 rcases open_ints Tryz.underlying32 Tryz.underlying5 (by kernel_rfl) h with ⟨rfl,_⟩ | ⟨a,len,cap,zs,rfl,_,hl,hm,hz,_,hc,hw⟩
 ·exact ⟨none,0,0,[],rfl,⟨rfl,fun k hk=>absurd hk (Nat.not_lt_zero _),by simp⟩,by decide,fun _=>rfl⟩
 ·have hr:IsRow .u8 W (some a) len cap zs:=.inr ⟨a,rfl,hl,hm,by simpa using hz,hc,hw⟩
  exact ⟨some a,len,cap,zs.take len,rfl,hr.row.1,by unfold maxLen at hm; omega,fun e=>by cases e⟩
set_option maxRecDepth 20000 in
theorem open_pm {H:Type}{enc:TypeId × Value→H}{W:World}{fuel:Nat}{cs:List Value}{x:DataW H × List MemPlace}(h:DataW.trod enc Tryz.prog W 0 (fun _=>true) true fuel 130 cs=some x):∃ y:Int × Int,cs = [.int .i64 y.1,.int .i64 y.2]:=by
 obtain ⟨xs,m,rfl,_,hl,hxl,hf⟩:=DataW.trod_struct Tryz.underlying130 h
 have hl2:cs.length=2:=hl.trans (by kernel_rfl)
 have hx2:xs.length=2:=hxl
 obtain ⟨c0,c1,rfl⟩:∃ c0 c1,cs = [c0,c1]:=by
  match cs,hl2 with
  | [c0,c1],_=>exact ⟨c0,c1,rfl⟩
 obtain ⟨x0,x1,rfl⟩:∃ c0 c1,xs = [c0,c1]:=by
  match xs,hx2 with
  | [c0,c1],_=>exact ⟨c0,c1,rfl⟩
 have e1:Tryz.prog.cellsOf 2=1:=by kernel_rfl
 have f0:DataW.trod enc Tryz.prog W 0 (fun _=>true) true m 2 ((([c0,c1]:List Value).drop 0).take (Tryz.prog.cellsOf 2))=some x0:=hf 0 _ rfl
 rw [e1] at f0
 have f1:DataW.trod enc Tryz.prog W 0 (fun _=>true) true m 2 ((([c0,c1]:List Value).drop 1).take (Tryz.prog.cellsOf 2))=some x1:=hf 1 _ rfl
 rw [e1] at f1
 obtain ⟨n0,h0,_,_⟩:=DataW.trod_int Tryz.underlying2 f0
 obtain ⟨n1,h1,_,_⟩:=DataW.trod_int Tryz.underlying2 f1
 simp at h0 h1
 subst h0 h1
 exact ⟨(n0,n1),rfl⟩
set_option maxRecDepth 20000 in
theorem open_pms {H:Type}{enc:TypeId × Value→H}{W:World}{fuel:Nat}{cs:List Value}{x:DataW H × List MemPlace}(h:DataW.trod enc Tryz.prog W 0 (fun _=>true) true fuel 30 cs=some x):∃ a n c xs,cs = [.slice a n c]∧Pms W a n xs:=by
 rcases DataW.trod_slice Tryz.underlying30 h with ⟨rfl,_⟩ | ⟨a,len,cap,elems,rest,n,rfl,rfl,_,_,hl,hm,hlen,hel,_,_⟩
 ·exact ⟨none,0,0,[],rfl,⟨rfl,by decide,fun k hk=>absurd hk (by omega)⟩⟩
 ·have ec:Tryz.prog.cellsOf 130=2:=by kernel_rfl
  rw [ec] at hel
  have each:∀ i,i<len→∃ y:Int × Int,∃ cs',W.cells? 0 (a.add (i * 2)) 2=some cs'∧cs' = [.int .i64 y.1,.int .i64 y.2]:=by
   intro i hi
   have he:=hel i hi
   rw [List.getElem?_eq_getElem (by omega)] at he
   cases hc:W.cells? 0 (a.add (i * 2)) 2 with
   | none=>rw [hc] at he; cases he
   | some cs' =>
    rw [hc] at he
    obtain ⟨y,hy⟩:=open_pm he
    exact ⟨y,cs',rfl,hy⟩
  obtain ⟨y,hy⟩:=Go.Deep.choose_lt each
  have hm':len≤9223372036854775807:=by unfold maxLen at hm; omega
  refine ⟨some a,len,cap,(List.range len).map y,rfl,⟨by simp,hm',fun k hk=>?_⟩⟩
  obtain ⟨cs',hcs,rfl⟩:=hy k hk
  obtain ⟨_,_,hcell⟩:=World.cells?_some hcs
  obtain ⟨b,off,spot⟩:=a
  have hs:spot=none:=by
   obtain ⟨cs0,hcs0,_⟩:=hy 0 (by omega)
   obtain ⟨_,hl0,hcell0⟩:=World.cells?_some hcs0
   have h00:=hcell0 0 (by omega)
   rw [List.getElem?_eq_getElem (by omega)] at h00
   simpa [Addr.add] using World.cell?_spot h00
  subst hs
  have ey:((List.range len).map y).getD k (0,0)=y k:=by simp [hk]
  rw [ey]
  have cc:∀ j,j<2→W.cell? ⟨b,off+k * 2+j,none⟩ = [Value.int .i64 (y k).1,.int .i64 (y k).2][j]?:=by
   intro j hj
   have:=hcell j hj
   rw [Addr.add_lit,Addr.add_lit] at this
   exact this
  exact ⟨b,off,rfl,World.block_lt_of_cell? W _ (cc 0 (by omega)),cc 0 (by omega),cc 1 (by omega)⟩
theorem open_row64C {H:Type}{enc:TypeId × Value→H}{W:World}{fuel:Nat}{cs:List Value}{x:DataW H × List MemPlace}(h:DataW.trod enc Tryz.prog W 0 (fun _=>true) true fuel 29 cs=some x) :
  ∃ a n cap zs,cs = [.slice a n cap]∧Row64 W a n zs∧n≤9223372036854775807:=by
 rcases open_ints Tryz.underlying29 Tryz.underlying2 (by kernel_rfl) h with ⟨rfl,_⟩ | ⟨a,len,cap,zs,rfl,_,hl,hm,hz,_,hc,hwz⟩
 ·exact ⟨none,0,0,[],rfl,⟨rfl,fun k hk=>absurd hk (Nat.not_lt_zero _)⟩,by decide⟩
 ·have hz':zs.length=cap:=by simpa using hz
  refine ⟨some a,len,cap,zs.take len,rfl,⟨by rw [List.length_take]; omega,fun k hk=>?_⟩,by unfold maxLen at hm; omega⟩
  have h0:=hc k (by omega)
  obtain ⟨b,off,spot⟩:=a
  have hs:spot=none:=by simpa [Addr.add] using World.cell?_spot (hc 0 (by omega))
  subst hs
  rw [Addr.add_lit] at h0
  refine ⟨b,off,rfl,World.block_lt_of_cell? W _ h0,h0.trans ?_⟩
  simp [hk]
set_option maxRecDepth 20000 in
theorem open_Ext {H:Type}{enc:TypeId × Value→H}{W:World}{fuel:Nat}{cs:List Value}{x:DataW H × List MemPlace}(h:DataW.trod enc Tryz.prog W 0 (fun _=>true) true fuel 108 cs=some x):∃ (s:XPS) (y:XP),cs = [.int .i64 y.id,.bool y.crit,.slice s.a1 s.n1 s.c1]∧XPR W s y:=by
 obtain ⟨xs,m,rfl,_,hl,hxl,hf⟩:=DataW.trod_struct Tryz.underlying108 h
 have hl2:cs.length=3:=hl.trans (by kernel_rfl)
 have hx2:xs.length=3:=hxl
 obtain ⟨c0,c1,c2,rfl⟩:∃ c0 c1 c2,cs = [c0,c1,c2]:=by
  match cs,hl2 with
  | [c0,c1,c2],_=>exact ⟨c0,c1,c2,rfl⟩
 obtain ⟨x0,x1,x2,rfl⟩:∃ y0 y1 y2,xs = [y0,y1,y2]:=by
  match xs,hx2 with
  | [y0,y1,y2],_=>exact ⟨y0,y1,y2,rfl⟩
 have e0:Tryz.prog.cellsOf 2=1:=by kernel_rfl
 have f0:DataW.trod enc Tryz.prog W 0 (fun _=>true) true m 2 ((([c0,c1,c2]:List Value).drop 0).take (Tryz.prog.cellsOf 2))=some x0:=hf 0 _ rfl
 rw [e0] at f0
 have e1:Tryz.prog.cellsOf 4=1:=by kernel_rfl
 have f1:DataW.trod enc Tryz.prog W 0 (fun _=>true) true m 4 ((([c0,c1,c2]:List Value).drop 1).take (Tryz.prog.cellsOf 4))=some x1:=hf 1 _ rfl
 rw [e1] at f1
 have e2:Tryz.prog.cellsOf 32=1:=by kernel_rfl
 have f2:DataW.trod enc Tryz.prog W 0 (fun _=>true) true m 32 ((([c0,c1,c2]:List Value).drop 2).take (Tryz.prog.cellsOf 32))=some x2:=hf 2 _ rfl
 rw [e2] at f2
 obtain ⟨v0,h0,_,_⟩:=DataW.trod_int Tryz.underlying2 f0
 obtain ⟨v1,h1,_⟩:=DataW.trod_bool Tryz.underlying4 f1
 obtain ⟨b1,m1,d1,v2,h2,r1,z1,nl1⟩:=open_sigN f2
 simp at h0 h1 h2
 subst h0
 subst h1
 subst h2
 exact ⟨⟨b1,m1,d1⟩,⟨v0,v1,v2⟩,rfl,⟨r1,z1,nl1⟩⟩
set_option maxRecDepth 20000 in
theorem open_Exts {H:Type}{enc:TypeId × Value→H}{W:World}{fuel:Nat}{cs:List Value}{x:DataW H × List MemPlace}(h:DataW.trod enc Tryz.prog W 0 (fun _=>true) true fuel 31 cs=some x):∃ a n c xs,cs = [.slice a n c]∧XPs W a n xs:=by
 rcases DataW.trod_slice Tryz.underlying31 h with ⟨rfl,_⟩ | ⟨a,len,cap,elems,rest,n,rfl,rfl,_,_,hl,hm,hlen,hel,_,_⟩
 ·exact ⟨none,0,0,[],rfl,⟨rfl,by decide,fun k hk=>absurd hk (by omega)⟩⟩
 ·have ec:Tryz.prog.cellsOf 108=3:=by kernel_rfl
  rw [ec] at hel
  have each:∀ i,i<len→∃ y:XPS × XP,∃ cs',W.cells? 0 (a.add (i * 3)) 3=some cs'∧cs' = [.int .i64 y.2.id,.bool y.2.crit,.slice y.1.a1 y.1.n1 y.1.c1]∧XPR W y.1 y.2:=by
   intro i hi
   have he:=hel i hi
   rw [List.getElem?_eq_getElem (by omega)] at he
   cases hc:W.cells? 0 (a.add (i * 3)) 3 with
   | none=>rw [hc] at he; cases he
   | some cs' =>
    rw [hc] at he
    obtain ⟨s,y,hcs,hp⟩:=open_Ext he
    exact ⟨(s,y),cs',rfl,hcs,hp⟩
  obtain ⟨y,hy⟩:=Go.Deep.choose_lt each
  have hm':len≤9223372036854775807:=by unfold maxLen at hm; omega
  refine ⟨some a,len,cap,(List.range len).map (fun i=>(y i).2),rfl,⟨by simp,hm',fun k hk=>?_⟩⟩
  obtain ⟨cs',hcs,rfl,hck⟩:=hy k hk
  obtain ⟨_,_,hcell⟩:=World.cells?_some hcs
  obtain ⟨b,off,spot⟩:=a
  have hs:spot=none:=by
   obtain ⟨cs0,hcs0,_⟩:=hy 0 (by omega)
   obtain ⟨_,hl0,hcell0⟩:=World.cells?_some hcs0
   have h00:=hcell0 0 (by omega)
   rw [List.getElem?_eq_getElem (by omega)] at h00
   simpa [Addr.add] using World.cell?_spot h00
  subst hs
  have ey:((List.range len).map (fun i=>(y i).2)).getD k default=(y k).2:=by simp [hk]
  rw [ey]
  have cc:∀ j,j<3→W.cell? ⟨b,off+k * 3+j,none⟩ = [(.int .i64 (y k).2.id:Value),.bool (y k).2.crit,.slice (y k).1.a1 (y k).1.n1 (y k).1.c1][j]?:=by
   intro j hj
   have:=hcell j hj
   rw [Addr.add_lit,Addr.add_lit] at this
   exact this
  exact ⟨b,off,(y k).1,rfl,World.block_lt_of_cell? W _ (cc 0 (by omega)),⟨cc 0 (by omega),cc 1 (by omega),cc 2 (by omega)⟩,hck⟩
set_option maxRecDepth 20000 in
theorem open_Cert {H:Type}{enc:TypeId × Value→H}{W:World}{fuel:Nat}{cs:List Value}{x:DataW H × List MemPlace}(h:DataW.trod enc Tryz.prog W 0 (fun _=>true) true fuel 34 cs=some x):∃ (s:CES) (y:CE),cs = [.int .i64 y.ser,.slice s.a1 s.n1 s.c1,.slice s.a2 s.n2 s.c2,.int .i64 y.frm,.int .i64 y.til,.int .i64 y.key.1,.int .u64 y.key.2.1,.int .i64 y.key.2.2,.bool y.ca,.int .i64 y.room,.int .i64 y.uses,.slice s.a3 s.n3 s.c3,.slice s.a4 s.n4 s.c4,.slice s.a5 s.n5 s.c5,.slice s.a6 s.n6 s.c6,.slice s.a7 s.n7 s.c7,.int .i64 y.need,.int .i64 y.nomap,.int .i64 y.noany,.slice s.a8 s.n8 s.c8,.slice s.a9 s.n9 s.c9]∧CER W s y∧U64 (y.key.2.1):=by
 obtain ⟨xs,m,rfl,_,hl,hxl,hf⟩:=DataW.trod_struct Tryz.underlying34 h
 have hl2:cs.length=21:=hl.trans (by kernel_rfl)
 have hx2:xs.length=19:=hxl
 obtain ⟨c0,c1,c2,c3,c4,c5,c6,c7,c8,c9,c10,c11,c12,c13,c14,c15,c16,c17,c18,c19,c20,rfl⟩:∃ c0 c1 c2 c3 c4 c5 c6 c7 c8 c9 c10 c11 c12 c13 c14 c15 c16 c17 c18 c19 c20,cs = [c0,c1,c2,c3,c4,c5,c6,c7,c8,c9,c10,c11,c12,c13,c14,c15,c16,c17,c18,c19,c20]:=by
  match cs,hl2 with
  | [c0,c1,c2,c3,c4,c5,c6,c7,c8,c9,c10,c11,c12,c13,c14,c15,c16,c17,c18,c19,c20],_=>exact ⟨c0,c1,c2,c3,c4,c5,c6,c7,c8,c9,c10,c11,c12,c13,c14,c15,c16,c17,c18,c19,c20,rfl⟩
 obtain ⟨x0,x1,x2,x3,x4,x5,x6,x7,x8,x9,x10,x11,x12,x13,x14,x15,x16,x17,x18,rfl⟩:∃ y0 y1 y2 y3 y4 y5 y6 y7 y8 y9 y10 y11 y12 y13 y14 y15 y16 y17 y18,xs = [y0,y1,y2,y3,y4,y5,y6,y7,y8,y9,y10,y11,y12,y13,y14,y15,y16,y17,y18]:=by
  match xs,hx2 with
  | [y0,y1,y2,y3,y4,y5,y6,y7,y8,y9,y10,y11,y12,y13,y14,y15,y16,y17,y18],_=>exact ⟨y0,y1,y2,y3,y4,y5,y6,y7,y8,y9,y10,y11,y12,y13,y14,y15,y16,y17,y18,rfl⟩
 have e0:Tryz.prog.cellsOf 2=1:=by kernel_rfl
 have f0:DataW.trod enc Tryz.prog W 0 (fun _=>true) true m 2 ((([c0,c1,c2,c3,c4,c5,c6,c7,c8,c9,c10,c11,c12,c13,c14,c15,c16,c17,c18,c19,c20]:List Value).drop 0).take (Tryz.prog.cellsOf 2))=some x0:=hf 0 _ rfl
 rw [e0] at f0
 have e1:Tryz.prog.cellsOf 24=1:=by kernel_rfl
 have f1:DataW.trod enc Tryz.prog W 0 (fun _=>true) true m 24 ((([c0,c1,c2,c3,c4,c5,c6,c7,c8,c9,c10,c11,c12,c13,c14,c15,c16,c17,c18,c19,c20]:List Value).drop 1).take (Tryz.prog.cellsOf 24))=some x1:=hf 1 _ rfl
 rw [e1] at f1
 have e2:Tryz.prog.cellsOf 24=1:=by kernel_rfl
 have f2:DataW.trod enc Tryz.prog W 0 (fun _=>true) true m 24 ((([c0,c1,c2,c3,c4,c5,c6,c7,c8,c9,c10,c11,c12,c13,c14,c15,c16,c17,c18,c19,c20]:List Value).drop 2).take (Tryz.prog.cellsOf 24))=some x2:=hf 2 _ rfl
 rw [e2] at f2
 have e3:Tryz.prog.cellsOf 2=1:=by kernel_rfl
 have f3:DataW.trod enc Tryz.prog W 0 (fun _=>true) true m 2 ((([c0,c1,c2,c3,c4,c5,c6,c7,c8,c9,c10,c11,c12,c13,c14,c15,c16,c17,c18,c19,c20]:List Value).drop 3).take (Tryz.prog.cellsOf 2))=some x3:=hf 3 _ rfl
 rw [e3] at f3
 have e4:Tryz.prog.cellsOf 2=1:=by kernel_rfl
 have f4:DataW.trod enc Tryz.prog W 0 (fun _=>true) true m 2 ((([c0,c1,c2,c3,c4,c5,c6,c7,c8,c9,c10,c11,c12,c13,c14,c15,c16,c17,c18,c19,c20]:List Value).drop 4).take (Tryz.prog.cellsOf 2))=some x4:=hf 4 _ rfl
 rw [e4] at f4
 have e5:Tryz.prog.cellsOf 27=3:=by kernel_rfl
 have f5:DataW.trod enc Tryz.prog W 0 (fun _=>true) true m 27 ((([c0,c1,c2,c3,c4,c5,c6,c7,c8,c9,c10,c11,c12,c13,c14,c15,c16,c17,c18,c19,c20]:List Value).drop 5).take (Tryz.prog.cellsOf 27))=some x5:=hf 5 _ rfl
 rw [e5] at f5
 have e6:Tryz.prog.cellsOf 4=1:=by kernel_rfl
 have f6:DataW.trod enc Tryz.prog W 0 (fun _=>true) true m 4 ((([c0,c1,c2,c3,c4,c5,c6,c7,c8,c9,c10,c11,c12,c13,c14,c15,c16,c17,c18,c19,c20]:List Value).drop 8).take (Tryz.prog.cellsOf 4))=some x6:=hf 6 _ rfl
 rw [e6] at f6
 have e7:Tryz.prog.cellsOf 2=1:=by kernel_rfl
 have f7:DataW.trod enc Tryz.prog W 0 (fun _=>true) true m 2 ((([c0,c1,c2,c3,c4,c5,c6,c7,c8,c9,c10,c11,c12,c13,c14,c15,c16,c17,c18,c19,c20]:List Value).drop 9).take (Tryz.prog.cellsOf 2))=some x7:=hf 7 _ rfl
 rw [e7] at f7
 have e8:Tryz.prog.cellsOf 2=1:=by kernel_rfl
 have f8:DataW.trod enc Tryz.prog W 0 (fun _=>true) true m 2 ((([c0,c1,c2,c3,c4,c5,c6,c7,c8,c9,c10,c11,c12,c13,c14,c15,c16,c17,c18,c19,c20]:List Value).drop 10).take (Tryz.prog.cellsOf 2))=some x8:=hf 8 _ rfl
 rw [e8] at f8
 have e9:Tryz.prog.cellsOf 28=1:=by kernel_rfl
 have f9:DataW.trod enc Tryz.prog W 0 (fun _=>true) true m 28 ((([c0,c1,c2,c3,c4,c5,c6,c7,c8,c9,c10,c11,c12,c13,c14,c15,c16,c17,c18,c19,c20]:List Value).drop 11).take (Tryz.prog.cellsOf 28))=some x9:=hf 9 _ rfl
 rw [e9] at f9
 have e10:Tryz.prog.cellsOf 28=1:=by kernel_rfl
 have f10:DataW.trod enc Tryz.prog W 0 (fun _=>true) true m 28 ((([c0,c1,c2,c3,c4,c5,c6,c7,c8,c9,c10,c11,c12,c13,c14,c15,c16,c17,c18,c19,c20]:List Value).drop 12).take (Tryz.prog.cellsOf 28))=some x10:=hf 10 _ rfl
 rw [e10] at f10
 have e11:Tryz.prog.cellsOf 28=1:=by kernel_rfl
 have f11:DataW.trod enc Tryz.prog W 0 (fun _=>true) true m 28 ((([c0,c1,c2,c3,c4,c5,c6,c7,c8,c9,c10,c11,c12,c13,c14,c15,c16,c17,c18,c19,c20]:List Value).drop 13).take (Tryz.prog.cellsOf 28))=some x11:=hf 11 _ rfl
 rw [e11] at f11
 have e12:Tryz.prog.cellsOf 29=1:=by kernel_rfl
 have f12:DataW.trod enc Tryz.prog W 0 (fun _=>true) true m 29 ((([c0,c1,c2,c3,c4,c5,c6,c7,c8,c9,c10,c11,c12,c13,c14,c15,c16,c17,c18,c19,c20]:List Value).drop 14).take (Tryz.prog.cellsOf 29))=some x12:=hf 12 _ rfl
 rw [e12] at f12
 have e13:Tryz.prog.cellsOf 30=1:=by kernel_rfl
 have f13:DataW.trod enc Tryz.prog W 0 (fun _=>true) true m 30 ((([c0,c1,c2,c3,c4,c5,c6,c7,c8,c9,c10,c11,c12,c13,c14,c15,c16,c17,c18,c19,c20]:List Value).drop 15).take (Tryz.prog.cellsOf 30))=some x13:=hf 13 _ rfl
 rw [e13] at f13
 have e14:Tryz.prog.cellsOf 2=1:=by kernel_rfl
 have f14:DataW.trod enc Tryz.prog W 0 (fun _=>true) true m 2 ((([c0,c1,c2,c3,c4,c5,c6,c7,c8,c9,c10,c11,c12,c13,c14,c15,c16,c17,c18,c19,c20]:List Value).drop 16).take (Tryz.prog.cellsOf 2))=some x14:=hf 14 _ rfl
 rw [e14] at f14
 have e15:Tryz.prog.cellsOf 2=1:=by kernel_rfl
 have f15:DataW.trod enc Tryz.prog W 0 (fun _=>true) true m 2 ((([c0,c1,c2,c3,c4,c5,c6,c7,c8,c9,c10,c11,c12,c13,c14,c15,c16,c17,c18,c19,c20]:List Value).drop 17).take (Tryz.prog.cellsOf 2))=some x15:=hf 15 _ rfl
 rw [e15] at f15
 have e16:Tryz.prog.cellsOf 2=1:=by kernel_rfl
 have f16:DataW.trod enc Tryz.prog W 0 (fun _=>true) true m 2 ((([c0,c1,c2,c3,c4,c5,c6,c7,c8,c9,c10,c11,c12,c13,c14,c15,c16,c17,c18,c19,c20]:List Value).drop 18).take (Tryz.prog.cellsOf 2))=some x16:=hf 16 _ rfl
 rw [e16] at f16
 have e17:Tryz.prog.cellsOf 31=1:=by kernel_rfl
 have f17:DataW.trod enc Tryz.prog W 0 (fun _=>true) true m 31 ((([c0,c1,c2,c3,c4,c5,c6,c7,c8,c9,c10,c11,c12,c13,c14,c15,c16,c17,c18,c19,c20]:List Value).drop 19).take (Tryz.prog.cellsOf 31))=some x17:=hf 17 _ rfl
 rw [e17] at f17
 have e18:Tryz.prog.cellsOf 32=1:=by kernel_rfl
 have f18:DataW.trod enc Tryz.prog W 0 (fun _=>true) true m 32 ((([c0,c1,c2,c3,c4,c5,c6,c7,c8,c9,c10,c11,c12,c13,c14,c15,c16,c17,c18,c19,c20]:List Value).drop 20).take (Tryz.prog.cellsOf 32))=some x18:=hf 18 _ rfl
 rw [e18] at f18
 obtain ⟨v0,h0,_,_⟩:=DataW.trod_int Tryz.underlying2 f0
 obtain ⟨b1,m1,d1,v1,h1,r1⟩:=open_name f1
 obtain ⟨b2,m2,d2,v2,h2,r2⟩:=open_name f2
 obtain ⟨v3,h3,_,_⟩:=DataW.trod_int Tryz.underlying2 f3
 obtain ⟨v4,h4,_,_⟩:=DataW.trod_int Tryz.underlying2 f4
 obtain ⟨v5,y5,k5,h5,g5⟩:=open_pub f5
 obtain ⟨v6,h6,_⟩:=DataW.trod_bool Tryz.underlying4 f6
 obtain ⟨v7,h7,_,_⟩:=DataW.trod_int Tryz.underlying2 f7
 obtain ⟨v8,h8,_,_⟩:=DataW.trod_int Tryz.underlying2 f8
 obtain ⟨b3,m3,d3,v9,h9,r3⟩:=open_gens f9
 obtain ⟨b4,m4,d4,v10,h10,r4⟩:=open_gens f10
 obtain ⟨b5,m5,d5,v11,h11,r5⟩:=open_gens f11
 obtain ⟨b6,m6,d6,v12,h12,r6,z6⟩:=open_row64C f12
 obtain ⟨b7,m7,d7,v13,h13,r7⟩:=open_pms f13
 obtain ⟨v14,h14,_,_⟩:=DataW.trod_int Tryz.underlying2 f14
 obtain ⟨v15,h15,_,_⟩:=DataW.trod_int Tryz.underlying2 f15
 obtain ⟨v16,h16,_,_⟩:=DataW.trod_int Tryz.underlying2 f16
 obtain ⟨b8,m8,d8,v17,h17,r8⟩:=open_Exts f17
 obtain ⟨b9,m9,d9,v18,h18,r9,z9,nl9⟩:=open_sigN f18
 simp at h0 h1 h2 h3 h4 h5 h6 h7 h8 h9 h10 h11 h12 h13 h14 h15 h16 h17 h18
 subst h0
 subst h1
 subst h2
 subst h3
 subst h4
 obtain ⟨rfl,rfl,rfl⟩:=h5
 subst h6
 subst h7
 subst h8
 subst h9
 subst h10
 subst h11
 subst h12
 subst h13
 subst h14
 subst h15
 subst h16
 subst h17
 subst h18
 exact ⟨⟨b1,m1,d1,b2,m2,d2,b3,m3,d3,b4,m4,d4,b5,m5,d5,b6,m6,d6,b7,m7,d7,b8,m8,d8,b9,m9,d9⟩,⟨v0,v1,v2,v3,v4,(v5,y5,k5),v6,v7,v8,v9,v10,v11,v12,v13,v14,v15,v16,v17,v18⟩,rfl,⟨r1,r2,r3,r4,r5,r6,z6,r7,r8,r9,z9,nl9⟩,g5⟩
end Go.Proofs.YtmdfbnlgfhjnoaaGreatDoor
