import Derived.Test.YtnmplldhdfingaaGreatDoorFG12
import Derived.Test.YtnmplldhdfingaaGreatDoorFG20
set_option maxRecDepth 10000
set_option maxHeartbeats 8000000
set_option linter.unusedVariables false
namespace Go.Proofs.YtnmplldhdfingaaGreatDoor
open Go.RowKit
def sgG (x:Int)(ms:List Int):List Int:=putI (signR x ms).1.1++putI (signR x ms).1.2
theorem results_sa {fn:Func}{t u v:Tmp}(h:fn.results=#[.tmp u,.cell t 39,.tmp v])(tmps:Array Value)(g:Nat)(ht:tmps.getD t undef=.pointer (some ⟨g,0,none⟩))(x:Value)(hx:tmps.getD u undef=x)(y:Value)(hy:tmps.getD v undef=y)(w:World)(c0 c1 c2 c3:Value)
  (hb:w.heap[g]? = some (.cells #[c0,c1,c2,c3] 39 (0,0))):(results fn tmps).run Tryz.prog w=.ok (.tuple #[x,.agg #[c0,c1,c2,c3],y]) w:=by
 have d0:w.cell? ⟨g,0,none⟩=some c0:=qk hb rfl
 have d1:w.cell? ⟨g,1,none⟩=some c1:=qk hb rfl
 have d2:w.cell? ⟨g,2,none⟩=some c2:=qk hb rfl
 have d3:w.cell? ⟨g,3,none⟩=some c3:=qk hb rfl
 clear hb
 have ht':tmps[t]?.getD undef=.pointer (some ⟨g,0,none⟩):=by rw [← ht]; simp
 have hx':tmps[u]?.getD undef=x:=by rw [← hx]; simp
 have hy':tmps[v]?.getD undef=y:=by rw [← hy]; simp
 simp [results,h,go_sem,ht',hx',hy',d0,d1,d2,d3]
theorem cells4 {W:World}{g:Nat}{x y z u:Value}{t:TypeId}(h:W.heap[g]? = some (.cells #[x,y,z,u] t (0,0))):W.cell? ⟨g,0,none⟩=some x∧W.cell? ⟨g,1,none⟩=some y∧W.cell? ⟨g,2,none⟩=some z∧W.cell? ⟨g,3,none⟩=some u :=
 ⟨(cell_of_row _ _ 0 _ t (0,0) h).trans rfl,(cell_of_row _ _ 1 _ t (0,0) h).trans rfl,(cell_of_row _ _ 2 _ t (0,0) h).trans rfl,(cell_of_row _ _ 3 _ t (0,0) h).trans rfl⟩
theorem frozen4 {W:World}{g:Nat}{cs:Array Value}{t:TypeId}(h:W.heap[g]? = some (.cells cs t (0,0))):W.frozen? ⟨g,0,none⟩=false∧W.frozen? ⟨g,1,none⟩=false∧W.frozen? ⟨g,2,none⟩=false∧W.frozen? ⟨g,3,none⟩=false :=
 ⟨frozen_of_row W _ 0 _ t h,frozen_of_row W _ 1 _ t h,frozen_of_row W _ 2 _ t h,frozen_of_row W _ 3 _ t h⟩
def set4 (w:World)(g:Nat)(v0 v1 v2 v3:Value):World:=(((w.setCell ⟨g,0,none⟩ v0).setCell ⟨g,1,none⟩ v1).setCell ⟨g,2,none⟩ v2).setCell ⟨g,3,none⟩ v3
theorem set4_cell (w:World)(g b i:Nat)(h:b≠g)(v0 v1 v2 v3:Value):(set4 w g v0 v1 v2 v3).cell? ⟨b,i,none⟩=w.cell? ⟨b,i,none⟩:=by
 have e:(set4 w g v0 v1 v2 v3).heap[b]? = w.heap[b]?:=(Below.heap_setCell _ _ _ _ (by simpa using h)).trans ((Below.heap_setCell _ _ _ _ (by simpa using h)).trans ((Below.heap_setCell _ _ _ _ (by simpa using h)).trans (Below.heap_setCell _ _ _ _ (by simpa using h))))
 exact World.cell?_of_block e
theorem heap_set4 {w:World}{g t:Nat}{c0 c1 c2 c3:Value}(h:w.heap[g]? = some (.cells #[c0,c1,c2,c3] t (0,0)))(v0 v1 v2 v3:Value):(set4 w g v0 v1 v2 v3).heap[g]? = some (.cells #[v0,v1,v2,v3] t (0,0)) :=
 heap_setCell_same _ g 3 _ t v3 (heap_setCell_same _ g 2 _ t v2 (heap_setCell_same _ g 1 _ t v1 (heap_setCell_same _ g 0 _ t v0 h)))
theorem below_set4 {B:Nat}{w0 w:World}(h:Below B w0 w)(g:Nat)(hg:B≤g)(u v t s:Value):Below B w0 (set4 w g u v t s):=(((h.setCell hg _).setCell hg _).setCell hg _).setCell hg _
structure Bx2 (g:Nat)(sc x h n:Int)(w1:World):Prop where
 s:w1.heap[g]? = some (.cells #[.int .i64 sc,.int .u64 x,.int .i64 h,.int .i64 n] 39)
 r:w1.heap[g+1]? = some (.cells #[.int .i64 0,.int .u64 0,.int .i64 0,.int .i64 0] 39)
theorem Bx2.kept {g:Nat}{sc x h n:Int}{w1 w2:World}(b:Bx2 g sc x h n w1)(hb:Below w1.heap.size w1 w2):Bx2 g sc x h n w2 :=
 ⟨(hb.block _ (Array.getElem?_eq_some_iff.1 b.s).1).trans b.s,(hb.block _ (Array.getElem?_eq_some_iff.1 b.r).1).trans b.r⟩
theorem Own.set {B g:Nat}{W:World}{a:Option Addr}{n cap:Nat}{bs:List Int}(h:Own B W a n cap bs)(hg:g<B)(i:Nat)(v:Value):Own B (W.setCell ⟨g,i,none⟩ v) a n cap bs:=by
 refine ⟨⟨h.row.1,?_⟩,h.byte⟩
 rcases h.row.2 with h | ⟨g',cap',cur,hv,hb,hh,r⟩
 ·exact .inl h
 ·exact .inr ⟨g',cap',cur,hv,hb,(Below.heap_setCell _ _ _ _ (by simp; omega)).trans hh,r⟩
theorem Own.set4 {B g:Nat}{W:World}{a:Option Addr}{n cap:Nat}{bs:List Int}(h:Own B W a n cap bs)(hg:g<B)(u v t s:Value):Own B (set4 W g u v t s) a n cap bs :=
 (((h.set hg _ _).set hg _ _).set hg _ _).set hg _ _
theorem groupSign_any (sc x h n:Int)(am:Option Addr)(nn c:Nat)(ms:List Int)(w:World)(hs:secP x)(hr:Row w am nn ms)(hn:nn≤1048576)(hc:am=none→c=0) :
  Calls Tryz.prog 175 #[.agg #[],scv sc x h n,.slice am nn c] w fun e w'=>∃ a cap,e=.returned (.tuple #[.slice a (sgG x ms).length cap,scv sc x h n,.int .i64 0])∧Own w.heap.size w' a (sgG x ms).length cap (sgG x ms)∧Below w.heap.size w w':=by
 obtain ⟨i0,hi,hz0,hz1,hz2⟩:=info_parts Tryz.info5
 obtain ⟨w1,hw1⟩:∃ w1,w1=((w.alloc (.cells #[] 166)).alloc (.cells #[.int .i64 sc,.int .u64 x,.int .i64 h,.int .i64 n] 39)).alloc (.cells #[.int .i64 0,.int .u64 0,.int .i64 0,.int .i64 0] 39):=⟨_,rfl⟩
 have hbb:Below w.heap.size w w1:=by rw [hw1]; exact three_belowT _ _ _ _
 have HB1:Hid (Bx2 (w.heap.size+1) sc x h n w1):=by
  show Bx2 _ _ _ _ _ _
  rw [hw1]
  exact ⟨(alloc_oldT _ _ _ (by simp)).trans (two_blocks w _ _).2,three_blocksT _ _ _ _⟩
 have HW:Hid (_=_):=hw1
 have HR1:Hid (Row w1 am nn ms):=hr.kept hbb
 clear hw1 hr
 have hx0:=hs.1
 have hx1:=hs.2
 obtain ⟨E,hE⟩:∃ E,E=(signR x ms).1.1:=⟨_,rfl⟩
 obtain ⟨S,hS⟩:∃ S,S=(signR x ms).1.2:=⟨_,rfl⟩
 have hEb:E≤9223372036854775807:=by rw [hE]; unfold signR; rw [if_pos hs]; exact Int.le_trans (chalN_bd _ _ _).2 (by decide)
 have hSb:S≤9223372036854775807:=by rw [hS]; unfold signR; rw [if_pos hs]; show (nonN x ms+sigE x ms * x) % 500000003≤_; omega
 have hS0:0≤S:=by rw [hS]; unfold signR; rw [if_pos hs]; show 0≤(nonN x ms+sigE x ms * x) % 500000003; omega
 have hSl:0<(putI S).length:=by unfold putI; rw [if_neg (by omega),putN,putL_len]; exact (cnt_ok _).pos
 have hEl:=putI_len E hEb
 have hSm:=putI_len S hSb
 have HG:Hid (sgG x ms=putI E++putI S):=by show _=_; unfold sgG; rw [← hE,← hS]
 rw [HG.out,List.length_append]
 obtain ⟨OK,hOK⟩:∃ OK,OK=(signR x ms).2:=⟨_,rfl⟩
 have HSG:Hid ((signR x ms)=((E,S),OK)):=by show _=_; rw [hE,hS,hOK]
 clear hE hS hOK
 rw [scv]
 go_enter Tryz.func175,Tryz.ntmps175
 go_upto_region 1 with fail
 rw [← HW.out]
 clear HW
 obtain ⟨s0,s1,s2,s3⟩:=cells4 HB1.out.s
 go_wp2_with fail
 refine (implSign_any x am nn c ms _ HR1.out hn hc).mono ?_
 rintro e w2 ⟨rfl,hb2⟩
 rw [HSG.out,sigv]
 obtain ⟨w3,hw3⟩:∃ w3,w3=w2.alloc (.cells #[.int .i64 E,.int .i64 S] 79):=⟨_,rfl⟩
 have hb3:Below w2.heap.size w2 w3:=by rw [hw3]; exact (Below.refl _ _).alloc (Nat.le_refl _) _
 have HS3:Hid (w3.heap[w2.heap.size]? = some (.cells #[.int .i64 E,.int .i64 S] 79)):=by show _=_; rw [hw3]; exact heap_alloc_new w2 _
 have hb23:=keepT hb2 hb3
 have HW3:Hid (_=_):=hw3
 clear hw3 s0 s1 s2 s3
 have HX:∀ W,Below w3.heap.size w3 W→W.cell? ⟨w2.heap.size,0,none⟩=some (.int .i64 E)∧W.cell? ⟨w2.heap.size,1,none⟩=some (.int .i64 S)∧W.cell? ⟨w.heap.size+1,0,none⟩=some (.int .i64 sc)∧W.cell? ⟨w.heap.size+1,1,none⟩=some (.int .u64 x)∧W.cell? ⟨w.heap.size+1,2,none⟩=some (.int .i64 h)∧W.cell? ⟨w.heap.size+1,3,none⟩=some (.int .i64 n):=by
  intro W hW
  have e:=(hW.block _ (Array.getElem?_eq_some_iff.1 HS3.out).1).trans HS3.out
  exact ⟨(cell_of_row _ _ 0 _ 79 (0,0) e).trans rfl,(cell_of_row _ _ 1 _ 79 (0,0) e).trans rfl,cells4 (HB1.out.kept (keepT hb23 hW)).s⟩
 have hw2s:w.heap.size+1+1<w2.heap.size:=Nat.lt_of_lt_of_le (Array.getElem?_eq_some_iff.1 HB1.out.r).1 hb2.size
 have HZ:∀ W,Below w3.heap.size w3 W→∀ v0 v1 v2 v3,(set4 W (w.heap.size+1+1) v0 v1 v2 v3).cell? ⟨w2.heap.size,0,none⟩=some (.int .i64 E)∧(set4 W (w.heap.size+1+1) v0 v1 v2 v3).cell? ⟨w2.heap.size,1,none⟩=some (.int .i64 S)∧(set4 W (w.heap.size+1+1) v0 v1 v2 v3).cell? ⟨w.heap.size+1,0,none⟩=some (.int .i64 sc)∧(set4 W (w.heap.size+1+1) v0 v1 v2 v3).cell? ⟨w.heap.size+1,1,none⟩=some (.int .u64 x)∧(set4 W (w.heap.size+1+1) v0 v1 v2 v3).cell? ⟨w.heap.size+1,2,none⟩=some (.int .i64 h)∧(set4 W (w.heap.size+1+1) v0 v1 v2 v3).cell? ⟨w.heap.size+1,3,none⟩=some (.int .i64 n):=by
  intro W hW v0 v1 v2 v3
  obtain ⟨e0,e1,e2,e3,e4,e5⟩:=HX W hW
  exact ⟨(set4_cell W _ _ _ (by omega) _ _ _ _).trans e0,(set4_cell W _ _ _ (by omega) _ _ _ _).trans e1,(set4_cell W _ _ _ (by omega) _ _ _ _).trans e2,(set4_cell W _ _ _ (by omega) _ _ _ _).trans e3,(set4_cell W _ _ _ (by omega) _ _ _ _).trans e4,(set4_cell W _ _ _ (by omega) _ _ _ _).trans e5⟩
 have HY:Hid (∀ W,Below w3.heap.size w3 W→Bx2 (w.heap.size+1) sc x h n W):=fun W hW=>HB1.out.kept (keepT hb23 hW)
 have hsz3:w.heap.size+1+1<w3.heap.size:=Nat.lt_of_lt_of_le (Array.getElem?_eq_some_iff.1 HB1.out.r).1 hb23.size
 go_upto_region 2 with fail
 rw [← HW3.out]
 clear HW3
 have hc3:Below w3.heap.size w3 w3:=Below.refl _ _
 have hd3:Below w3.heap.size w3 w3.drew:=hc3.drew
 have SS:=HX _ hc3
 have SS1:=HX _ hd3
 go_region_held_law (fun W=>W.cell? ⟨w2.heap.size,0,none⟩=some (.int .i64 E)∧W.cell? ⟨w2.heap.size,1,none⟩=some (.int .i64 S)∧W.cell? ⟨w.heap.size+1,0,none⟩=some (.int .i64 sc)∧W.cell? ⟨w.heap.size+1,1,none⟩=some (.int .u64 x)∧W.cell? ⟨w.heap.size+1,2,none⟩=some (.int .i64 h)∧W.cell? ⟨w.heap.size+1,3,none⟩=some (.int .i64 n)) (first | assumption | exact SS | exact SS1 | exact SS2 | exact SS3 | exact SS4 | exact HZ _ hbr6 _ _ _ _)
  (first
   | (go_at_call_of 129 E; refine (implPutNum_any E _ hEb).mono ?_; rintro e w4 ⟨a4,c4,rfl,ho4,hb4⟩; have hc4:Below w3.heap.size w3 w4:=keepT (by first | exact hd3 | exact hc3) hb4; have SS2:=HX _ hc4)
   | (go_at_call_of 129 S; refine (implPutNum_any S _ hSb).mono ?_; rintro e w5 ⟨a5,c5,rfl,ho5,hb5⟩; have hc5:=keepT hc4 hb5; have SS3:=HX _ hc5; have ho45:Own w3.heap.size w5 a4 (putI E).length c4 (putI E):=ho4.kept hb5; obtain ⟨g5,rfl⟩:=ho5.shape hSl; have hcl:=row_cells ho5.toRow)
   | (refine step_append_ownT rfl (.tmp 21) (.tmp 24) 26 rfl w3.heap.size 5 i0 _ 1 1 Tryz.underlying26 hi hz0 hz1 hz2 rfl (by decide) _ (putI E).length _ (by simp [Act.eval]) ho45.row ⟨g5,0,none⟩ (putI S).length c5 ((putI S).map (Value.int .u8)) (by simp [Act.eval]) (by simp) hcl (ints_oneCell .u8 (putI S)) (by unfold maxLen; omega) (by omega) (by exact hc5.size) ?_; intro v6 w6 hv6 hg6; have hbr6:Below w3.heap.size w3 w6:=hc5.grown hg6 hc5.size (fun k hk=>(ho45.row.lt k hk).1); have SS4:=HX _ hbr6; obtain ⟨r0,r1,r2,r3⟩:=cells4 (HY.out _ hbr6).r; obtain ⟨f0,f1,f2,f3⟩:=frozen4 (HY.out _ hbr6).r; obtain ⟨a6,c6,rfl,ho6⟩:=own_appended hv6 ho45.byte ho5.byte))
 have HB6:Hid (_=_):=(HY.out _ hbr6).r
 have HO6:Hid (Own w3.heap.size w6 a6 ((putI E).length+(putI S).length) c6 (putI E++putI S)):=ho6
 have hB6:Below w.heap.size w w6:=keepT hbb (keepT hb23 hbr6)
 go_wp2
 try simp only [Exit.inBlock,Exit.then]
 have h3w:w.heap.size≤w3.heap.size:=by omega
 exact bodyPost_ret (results_sa rfl _ (w.heap.size+1+1) rfl _ rfl _ rfl _ _ _ _ _ (heap_set4 HB6.out _ _ _ _)) rfl ⟨_,_,rfl,(HO6.out.set4 hsz3 _ _ _ _).mono h3w,below_set4 hB6 _ (by omega) _ _ _ _⟩
end Go.Proofs.YtnmplldhdfingaaGreatDoor
