import Derived.Test.YtnmplldhdfingaaGreatDoorFG36
import Derived.Test.YtnmplldhdfingaaGreatDoorFG29
set_option maxRecDepth 10000
set_option maxHeartbeats 8000000
set_option linter.unusedVariables false
namespace Go.Proofs.YtnmplldhdfingaaGreatDoor
open Go.RowKit Go.Sort
theorem l10Copy_any (a1:Option Addr)(n1 c1:Nat)(a2:Option Addr)(n2 c2:Nat)(a3:Option Addr)(n3 c3:Nat)(x:CP)(w:World)(h:Crs w a1 n1 a2 n2 a3 n3 x)(hz:CpOk n1 n2 n3 x)(hn1:a1=none→c1=0)(hn3:a3=none→c3=0)
  (hc0:∀ k,k<n2→∀ b off an nn cn,a2=some ⟨b,off,none⟩→w.cell? ⟨b,off+k * 4,none⟩=some (.slice an nn cn)→(an=none→cn=0)∧nn≤1048576) :
  Calls Tryz.prog 16 #[crv a1 n1 c1 a2 n2 c2 a3 n3 c3 x] w fun e w'=>∃ p1 d1 p2 d2 p3 d3,e=.returned (crv p1 n1 d1 p2 n2 d2 p3 n3 d3 x)∧CrsT w.heap.size w' p1 n1 p2 n2 p3 n3 x∧w'.ownsRow w.heap.size 132 2 (.slice p1 n1 d1) n1 (flPt x.parts)∧(∃ sl,EachQ w.heap.size w' p2 n2 d2 x.ents sl∧∀ j,j<n2→(sl j).2.1=(x.ents.getD j default).parts.length)∧Below w.heap.size w w':=by
 obtain ⟨i5,hi5,hz50,hz51,hz52⟩:=info_parts Tryz.info5
 obtain ⟨w1,hw1⟩:∃ w1,w1=(w.alloc (.cells #[.slice a1 n1 c1,.int .i64 x.num,.int .i64 x.base,.int .i64 x.tm,.int .i64 x.next,.int .i64 x.scope,.bool x.ind,.slice a2 n2 c2,.slice a3 n3 c3] 38)).alloc (.cells #[.slice none 0 0,.int .i64 0,.int .i64 0,.int .i64 0,.int .i64 0,.int .i64 0,.bool false,.slice none 0 0,.slice none 0 0] 38):=⟨_,rfl⟩
 have hbb:Below w.heap.size w w1:=by rw [hw1]; exact ((Below.refl _ _).alloc (Nat.le_refl _) _).alloc (by simp) _
 have hB1:w1.heap[w.heap.size]? = some (.cells #[.slice a1 n1 c1,.int .i64 x.num,.int .i64 x.base,.int .i64 x.tm,.int .i64 x.next,.int .i64 x.scope,.bool x.ind,.slice a2 n2 c2,.slice a3 n3 c3] 38 (0,0))∧w1.heap[w.heap.size+1]? = some (.cells #[.slice none 0 0,.int .i64 0,.int .i64 0,.int .i64 0,.int .i64 0,.int .i64 0,.bool false,.slice none 0 0,.slice none 0 0] 38 (0,0)):=by rw [hw1]; exact two_blocks w _ _
 have hs1:w1.heap.size=w.heap.size+2:=by rw [hw1]; simp
 have HZ:Hid (CpOk n1 n2 n3 x):=hz
 have HRK:Hid (∀ W,Below w.heap.size w W→Crs W a1 n1 a2 n2 a3 n3 x∧∀ k,k<n2→∀ b off an nn cn,a2=some ⟨b,off,none⟩→W.cell? ⟨b,off+k * 4,none⟩=some (.slice an nn cn)→(an=none→cn=0)∧nn≤1048576):=fun W hb2=>by
  refine ⟨h.kept hb2,fun k hk b off an nn cn e hc=>hc0 k hk b off an nn cn e ?_⟩
  obtain ⟨b',off',_,_,_,e',hlt,_⟩:=h.en.get k hk
  rw [e] at e'
  simp only [Option.some.injEq,Addr.mk.injEq] at e'
  obtain ⟨rfl,_,_⟩:=e'
  rw [← hb2.cell (p:=⟨b,off+k * 4,none⟩) hlt]
  exact hc
 have HL:Hid (x.parts.length=n1∧x.ents.length=n2):=⟨h.nm.len,h.en.len⟩
 have HB1:Hid (_∧_):=hB1
 have HBW:Hid (Below w.heap.size w w1):=hbb
 have HW:Hid (_=_):=hw1
 clear hw1 h hc0 hz hB1 hbb
 unfold crv
 go_enter Tryz.func16,Tryz.ntmps16
 go_upto_region 1 with fail
 rw [← HW.out]
 clear HW
 have x0:w1.cell? ⟨w.heap.size,0,none⟩=some (.slice a1 n1 c1):=qk HB1.out.1 rfl
 go_wp2_with fail
 refine (l9CopyName_any a1 n1 c1 x.parts w1 (HRK.out _ HBW.out).1.nm hn1 HZ.out.1).mono ?_
 rintro e w2 ⟨p1,d1,rfl,ho1,hb2⟩
 have hbx2:=(hb2.block w.heap.size (by omega)).trans HB1.out.1
 have hbr2:=(hb2.block (w.heap.size+1) (by omega)).trans HB1.out.2
 have x0:w2.cell? ⟨w.heap.size,0,none⟩=some (.slice a1 n1 c1):=qk hbx2 rfl
 have f0:w2.frozen? ⟨w.heap.size,0,none⟩=false:=frozen_of_row w2 _ 0 _ _ hbx2
 obtain ⟨w3,hw3⟩:∃ w3,w3=w2.setCell ⟨w.heap.size,0,none⟩ (.slice p1 n1 d1):=⟨_,rfl⟩
 have t3:Touch w.heap.size (w.heap.size+1) w2 w3:=by rw [hw3]; exact touch_setC _ _ _ _ (Nat.le_refl _) (Nat.lt_succ_self _)
 have hbx3:w3.heap[w.heap.size]? = some (.cells #[.slice p1 n1 d1,.int .i64 x.num,.int .i64 x.base,.int .i64 x.tm,.int .i64 x.next,.int .i64 x.scope,.bool x.ind,.slice a2 n2 c2,.slice a3 n3 c3] 38 (0,0)):=by rw [hw3]; exact (heap_setCell_same w2 w.heap.size 0 _ _ _ hbx2).trans rfl
 have hbr3:=(t3.block (w.heap.size+1) (Array.getElem?_eq_some_iff.1 hbr2).1 (.inr (Nat.le_refl _))).trans hbr2
 have ho3:=owns_touchC ho1 t3 (by omega)
 have B2:=HBW.out.trans (hb2.mono HBW.out.size)
 have HB3:Hid (Below w.heap.size w w3):=B2.trans (t3.below (Nat.le_refl _) B2.size)
 have hs3:w.heap.size+2≤w3.heap.size:=by have:=hb2.size; have:=t3.size; omega
 have HX3:Hid (_∧_):=⟨hbx3,hbr3⟩
 have HO3:Hid (_):=ho3
 have HW3:Hid (_=_):=hw3
 clear ho1 hb2 hbx2 hbr2 hw3 t3 hbx3 hbr3 ho3 B2
 go_upto_region 2 with fail
 rw [← HW3.out]
 clear HW3 x0 f0 HB1 HBW
 have x7:w3.cell? ⟨w.heap.size,7,none⟩=some (.slice a2 n2 c2):=qk HX3.out.1 rfl
 go_wp2_with fail
 refine (l10Gones_any a2 n2 c2 x.ents w3 (HRK.out _ HB3.out).1.en HZ.out.2.2.1 (HRK.out _ HB3.out).2).mono ?_
 rintro e w4 ⟨p2,d2,sl,rfl,hE,hEl,hb4⟩
 have hbx4:=(hb4.block w.heap.size (by omega)).trans HX3.out.1
 have hbr4:=(hb4.block (w.heap.size+1) (by omega)).trans HX3.out.2
 have x7:w4.cell? ⟨w.heap.size,7,none⟩=some (.slice a2 n2 c2):=qk hbx4 rfl
 have f7:w4.frozen? ⟨w.heap.size,7,none⟩=false:=frozen_of_row w4 _ 7 _ _ hbx4
 obtain ⟨w5,hw5⟩:∃ w5,w5=w4.setCell ⟨w.heap.size,7,none⟩ (.slice p2 n2 d2):=⟨_,rfl⟩
 have t5:Touch w.heap.size (w.heap.size+1) w4 w5:=by rw [hw5]; exact touch_setC _ _ _ _ (Nat.le_refl _) (Nat.lt_succ_self _)
 have hbx5:w5.heap[w.heap.size]? = some (.cells #[.slice p1 n1 d1,.int .i64 x.num,.int .i64 x.base,.int .i64 x.tm,.int .i64 x.next,.int .i64 x.scope,.bool x.ind,.slice p2 n2 d2,.slice a3 n3 c3] 38 (0,0)):=by rw [hw5]; exact (heap_setCell_same w4 w.heap.size 7 _ _ _ hbx4).trans rfl
 have hbr5:=(t5.block (w.heap.size+1) (Array.getElem?_eq_some_iff.1 hbr4).1 (.inr (Nat.le_refl _))).trans hbr4
 have hap:∀ j,j<n2→∀ g,(sl j).1=some ⟨g,0,none⟩→p1≠some ⟨g,0,none⟩:=fun j hj g h1 h2=>by
  have e1:=(ownsRow_in (hE.each j hj) g h1).1
  have e2:=(ownsRow_in HO3.out g h2).2
  omega
 have B4:=HB3.out.trans (hb4.mono HB3.out.size)
 have HB5:Hid (Below w.heap.size w w5):=B4.trans (t5.below (Nat.le_refl _) B4.size)
 have hs5:w.heap.size+2≤w5.heap.size:=by have:=hb4.size; have:=t5.size; omega
 have HX5:Hid (_∧_):=⟨hbx5,hbr5⟩
 have HO5:Hid (w5.ownsRow (w.heap.size+2) 132 2 (.slice p1 n1 d1) n1 (flPt x.parts)):=owns_touchC (ownsRow_below (owns_monoC HO3.out (by omega)) hb4) t5 (by omega)
 have HE5:Hid (EachQ (w.heap.size+2) w5 p2 n2 d2 x.ents sl):=(hE.monoC hs3).touchC t5 (by omega)
 have HEL:Hid (_):=hEl
 have HAP:Hid (_):=hap
 have HW5:Hid (_=_):=hw5
 clear hb4 hbx4 hbr4 hw5 t5 hbx5 hbr5 B4 hE hEl hap HO3 HX3 HB3
 go_upto_region 3 with fail
 rw [← HW5.out]
 clear HW5 x7 f7
 have hal:Below w5.heap.size w5 (w5.alloc (.cells #[] 5)):=(Below.refl _ _).alloc (Nat.le_refl _) _
 have HO6:Hid (Own w5.heap.size (w5.alloc (.cells #[] 5)) (some ⟨w5.heap.size,0,none⟩) 0 0 []):=⟨World.ownsRow_lit w5 #[] 0 (Nat.le_refl _) (by decide) rfl,by simp⟩
 have hbx6:=(hal.block w.heap.size (by omega)).trans HX5.out.1
 have x8:w5.cell? ⟨w.heap.size,8,none⟩=some (.slice a3 n3 c3):=qk HX5.out.1 rfl
 have y8:(w5.alloc (.cells #[] 5)).cell? ⟨w.heap.size,8,none⟩=some (.slice a3 n3 c3):=qk hbx6 rfl
 have HSG:Hid (Row (w5.alloc (.cells #[] 5)) a3 n3 x.sig):=(HRK.out _ HB5.out).1.sg.kept hal
 have HAL:Hid (Below w5.heap.size w5 (w5.alloc (.cells #[] 5))):=hal
 have hn3m:=HZ.out.2.2.2.2
 clear hal hbx6
 go_upto_region 4 with (at_builtin; refine wpList_append_row _ rfl (.tmp 11) (.tmp 13) 26 rfl w5.heap.size i5 Tryz.underlying26 hi5 hz50 hz51 hz52 _ _ _ rfl HO6.out.row a3 n3 c3 x.sig rfl HSG.out hn3 (by omega) (by simp) ?_; intro v6 w6 hv6 hg6; obtain ⟨p3,d3,rfl,ho6⟩:=own_appended (xs:=[]) (ys:=x.sig) hv6 HO6.out.byte HSG.out.byte; rw [Nat.zero_add] at ho6 ⊢; have hb6:=below_appended HAL.out HAL.out.size HO6.out.row hg6; have HF:Hid (_∧_∧_):=⟨ho6,hb6,(hb6.block w.heap.size (by omega)).trans HX5.out.1⟩; have hbx7:=(hb6.block w.heap.size (by omega)).trans HX5.out.1; have z8:w6.cell? ⟨w.heap.size,8,none⟩=some (.slice a3 n3 c3):=(cell_of_row _ _ 8 _ _ (0,0) hbx7).trans rfl; have fz8:w6.frozen? ⟨w.heap.size,8,none⟩=false:=frozen_of_row w6 _ 8 _ _ hbx7; clear hv6 hg6 ho6 hb6 hbx7)
 obtain ⟨w7,hw7⟩:∃ w7,w7=w6.setCell ⟨w.heap.size,8,none⟩ (.slice p3 n3 d3):=⟨_,rfl⟩
 have t7:Touch w.heap.size (w.heap.size+1) w6 w7:=by rw [hw7]; exact touch_setC _ _ _ _ (Nat.le_refl _) (Nat.lt_succ_self _)
 have hbx7:w7.heap[w.heap.size]? = some (.cells #[.slice p1 n1 d1,.int .i64 x.num,.int .i64 x.base,.int .i64 x.tm,.int .i64 x.next,.int .i64 x.scope,.bool x.ind,.slice p2 n2 d2,.slice p3 n3 d3] 38 (0,0)):=by rw [hw7]; exact (heap_setCell_same w6 w.heap.size 8 _ _ _ HF.out.2.2).trans rfl
 have hbr6:=(HF.out.2.1.block (w.heap.size+1) (by omega)).trans HX5.out.2
 have hbr7:=(t7.block (w.heap.size+1) (Array.getElem?_eq_some_iff.1 hbr6).1 (.inr (Nat.le_refl _))).trans hbr6
 have B6:=HB5.out.trans (HF.out.2.1.mono HB5.out.size)
 have HB7:Hid (Below w.heap.size w w7):=B6.trans (t7.below (Nat.le_refl _) B6.size)
 have HX7:Hid (w7.heap[w.heap.size]? = some (.cells #[.slice p1 n1 d1,.int .i64 x.num,.int .i64 x.base,.int .i64 x.tm,.int .i64 x.next,.int .i64 x.scope,.bool x.ind,.slice p2 n2 d2,.slice p3 n3 d3] 38 (0,0))∧w7.heap[w.heap.size+1]? = some (.cells #[.slice none 0 0,.int .i64 0,.int .i64 0,.int .i64 0,.int .i64 0,.int .i64 0,.bool false,.slice none 0 0,.slice none 0 0] 38 (0,0))):=⟨hbx7,hbr7⟩
 have HN7:Hid (w7.ownsRow (w.heap.size+2) 132 2 (.slice p1 n1 d1) n1 (flPt x.parts)∧EachQ (w.heap.size+2) w7 p2 n2 d2 x.ents sl∧Own (w.heap.size+2) w7 p3 n3 d3 x.sig):=⟨owns_touchC (ownsRow_below HO5.out HF.out.2.1) t7 (by omega),(HE5.out.below HF.out.2.1).touchC t7 (by omega),⟨owns_touchC (owns_monoC HF.out.1.row hs5) t7 (by omega),HF.out.1.byte⟩⟩
 have HW7:Hid (_=_):=hw7
 rw [← hw7]
 clear hw7 t7 hbx7 hbr6 hbr7 B6 HF HO5 HE5 HX5 HB5 x8 y8 HW7
 go_wp2_with (first | (refine wpList_load_row rfl 38 _ rfl w.heap.size rfl 38 #[.slice p1 n1 d1,.int .i64 x.num,.int .i64 x.base,.int .i64 x.tm,.int .i64 x.next,.int .i64 x.scope,.bool x.ind,.slice p2 n2 d2,.slice p3 n3 d3] (0,0) _ HX7.out.1 Tryz.underlying38 rfl infoSizeCrl ?_) | (refine wpList_store_rowTo rfl 38 _ _ rfl rfl (w.heap.size+1) #[.slice p1 n1 d1,.int .i64 x.num,.int .i64 x.base,.int .i64 x.tm,.int .i64 x.next,.int .i64 x.scope,.bool x.ind,.slice p2 n2 d2,.slice p3 n3 d3] rfl rfl 38 #[.slice none 0 0,.int .i64 0,.int .i64 0,.int .i64 0,.int .i64 0,.int .i64 0,.bool false,.slice none 0 0,.slice none 0 0] HX7.out.2 infoSizeCrl rfl (by simp [Value.oneCell']) ?_))
 have q6:=setRow_heap w7 (w.heap.size+1) _ #[.slice p1 n1 d1,.int .i64 x.num,.int .i64 x.base,.int .i64 x.tm,.int .i64 x.next,.int .i64 x.scope,.bool x.ind,.slice p2 n2 d2,.slice p3 n3 d3] 38 (0,0) HX7.out.2
 have tt:=setRow_touch w7 (w.heap.size+1) #[.slice p1 n1 d1,.int .i64 x.num,.int .i64 x.base,.int .i64 x.tm,.int .i64 x.next,.int .i64 x.scope,.bool x.ind,.slice p2 n2 d2,.slice p3 n3 d3]
 try simp only [Exit.inBlock,Exit.then]
 have hown:Own (w.heap.size+2) (w7.setRow (w.heap.size+1) #[.slice p1 n1 d1,.int .i64 x.num,.int .i64 x.base,.int .i64 x.tm,.int .i64 x.next,.int .i64 x.scope,.bool x.ind,.slice p2 n2 d2,.slice p3 n3 d3]) p3 n3 d3 x.sig:=⟨owns_touchC HN7.out.2.2.row tt (by omega),HN7.out.2.2.byte⟩
 have hcl:=cloned_of (owns_touchC HN7.out.1 tt (by omega)) (HN7.out.2.1.touchC tt (by omega)) hown HEL.out HL.out.1 HL.out.2 hown.toRow HZ.out HAP.out
 have hct:CrsT w.heap.size (w7.setRow (w.heap.size+1) #[.slice p1 n1 d1,.int .i64 x.num,.int .i64 x.base,.int .i64 x.tm,.int .i64 x.next,.int .i64 x.scope,.bool x.ind,.slice p2 n2 d2,.slice p3 n3 d3]) p1 n1 p2 n2 p3 n3 x:=fun W' lo hi t2 h3=>by
  have ho2:Own (w.heap.size+2) W' p3 n3 d3 x.sig:=⟨owns_touchC hown.row t2 (by omega),hown.byte⟩
  exact (cloned_of (owns_touchC (owns_touchC HN7.out.1 tt (by omega)) t2 (by omega)) ((HN7.out.2.1.touchC tt (by omega)).touchC t2 (by omega)) ho2 HEL.out HL.out.1 HL.out.2 ho2.toRow HZ.out HAP.out).1
 exact bodyPost_ret (results_cell_row (by rfl) _ _ (w.heap.size+1) _ _ (0,0) _ rfl q6 Tryz.underlying38 rfl infoSizeCrl) rfl ⟨p1,d1,p2,d2,p3,d3,rfl,hct,owns_monoC (owns_touchC HN7.out.1 tt (by omega)) (by omega),⟨sl,(HN7.out.2.1.touchC tt (by omega)).monoC (by omega),HEL.out⟩,HB7.out.trans (tt.below (by omega) HB7.out.size)⟩
open Go.RowKit Go.Sort
def noSig (x:CP):CP:=⟨x.parts,x.num,x.base,x.tm,x.next,x.scope,x.ind,x.ents,[]⟩
def zeroC:CP:=⟨[],0,0,0,0,0,false,[],[]⟩
theorem OwnQ.lowerC {B B':Nat}{w:World}{a:Option Addr}{n cap:Nat}{sl:Nat→Sl}{pv:Nat→List Value}{vs:List Value}(h:OwnQ B w a n cap sl pv vs)(hB:B'≤B):OwnQ B' w a n cap sl pv vs :=
 ⟨owns_monoC h.row hB,h.at0,fun j hj hp=>owns_monoC (h.each j hj hp) hB,h.apart⟩
theorem OwnC.lowerC {B B':Nat}{w:World}{a1:Option Addr}{n1 c1:Nat}{a2:Option Addr}{n2 c2:Nat}{a3:Option Addr}{n3 c3:Nat}{v1:List Value}{sl:Nat→Sl}{pv:Nat→List Value}{vs:List Value}{bs:List Int}(h:OwnC B w a1 n1 c1 a2 n2 c2 a3 n3 c3 v1 sl pv vs bs)(hB:B'≤B):OwnC B' w a1 n1 c1 a2 n2 c2 a3 n3 c3 v1 sl pv vs bs :=
 ⟨fun hp=>owns_monoC (h.nm hp) hB,h.en.lowerC hB,h.sg.mono hB,h.ap⟩
open Go.RowKit Go.Sort
theorem owns_none {w:World}{B t s n c:Nat}{a:Option Addr}{vs:List Value}(h:w.ownsRow B t s (.slice a n c) n vs)(e:a=none):n=0∧c=0:=by
 rcases h.2 with ⟨q,_⟩ | ⟨g,c1,cur,h1,_⟩
 ·simp only [Value.slice.injEq] at q
  exact ⟨q.2.1,q.2.2⟩
 ·simp only [Value.slice.injEq] at h1
  rw [e] at h1
  simp at h1
theorem own_slen {B:Nat}{w:World}{a:Option Addr}{n c:Nat}{xs:List GP}{sl:Nat→Sl}{pv:Nat→List Value}{vs:List Value}(h:OwnQ B w a n c sl pv vs)(hr:Gns w a n xs)(j:Nat)(hj:j<n):(sl j).2.1=(xs.getD j default).parts.length:=by
 obtain ⟨b,off,an,nn,cn,e,hlb,hc,hp⟩:=hr.get j hj
 obtain ⟨g,e2,_,hg⟩:=ownsRow_shape h.row (by omega)
 have e3:=e2.symm.trans e
 simp only [Option.some.injEq,Addr.mk.injEq] at e3
 obtain ⟨rfl,rfl,_⟩:=e3
 have hrow:=h.row
 rw [e2] at hrow
 have h0:=(hrow.cellAt (j * 4) (by omega)).trans (h.at0 j hj)
 have h1:=hc.1
 rw [Nat.zero_add] at h1
 rw [h0] at h1
 simp only [Option.some.injEq,Value.slice.injEq] at h1
 rw [h1.2.1]
 exact hp.len.symm
structure CapsC (w:World)(a1:Option Addr)(n1:Nat)(a2:Option Addr)(n2:Nat)(a3:Option Addr)(n3:Nat):Prop where
 nm:a1=none→n1=0
 sg:a3=none→n3=0
 en:∀ k,k<n2→∀ b off an nn cn,a2=some ⟨b,off,none⟩→w.cell? ⟨b,off+k * 4,none⟩=some (.slice an nn cn)→(an=none→cn=0)∧nn≤1048576
structure CrG (w:World)(a1:Option Addr)(n1:Nat)(a2:Option Addr)(n2:Nat)(a3:Option Addr)(n3:Nat)(x:CP):Prop where
 crs:Crs w a1 n1 a2 n2 a3 n3 x
 caps:CapsC w a1 n1 a2 n2 a3 n3
theorem CrG.kept {w w':World}{a1:Option Addr}{n1:Nat}{a2:Option Addr}{n2:Nat}{a3:Option Addr}{n3:Nat}{x:CP}(h:CrG w a1 n1 a2 n2 a3 n3 x)(hb:Below w.heap.size w w'):CrG w' a1 n1 a2 n2 a3 n3 x:=by
 refine ⟨h.crs.kept hb,h.caps.nm,h.caps.sg,fun k hk b off an nn cn e hc=>?_⟩
 obtain ⟨b',off',an',nn',cn',e',hlb,hc',hp⟩:=h.crs.en.get k hk
 have e3:=e.symm.trans e'
 simp only [Option.some.injEq,Addr.mk.injEq] at e3
 obtain ⟨rfl,rfl,_⟩:=e3
 refine h.caps.en k hk b off an nn cn e ?_
 rw [← hb.cell (p:=⟨b,off+k * 4,none⟩) hlb]
 exact hc
theorem crG_of {B:Nat}{w:World}{a1:Option Addr}{n1:Nat}{a2:Option Addr}{n2:Nat}{a3:Option Addr}{n3:Nat}{x:CP}{v1:List Value}{sl:Nat→Sl}{pv:Nat→List Value}{vs:List Value}(h:Crs w a1 n1 a2 n2 a3 n3 x)(hz:CpOk n1 n2 n3 x)(ho:OwnC B w a1 n1 n1 a2 n2 n2 a3 n3 n3 v1 sl pv vs x.sig)(hs:∀ j,j<n2→(sl j).1=none→(sl j).2.2=0):CrG w a1 n1 a2 n2 a3 n3 x:=by
 refine ⟨h,fun e=>?_,fun e=>(owns_none ho.sg.row e).1,fun k hk b off an nn cn e hc=>?_⟩
 ·rcases Nat.eq_zero_or_pos n1 with q | q
  ·exact q
  ·exact (owns_none (ho.nm q) e).1
 ·obtain ⟨g,e2,_,hg⟩:=ownsRow_shape ho.en.row (by omega)
  have e3:=e2.symm.trans e
  simp only [Option.some.injEq,Addr.mk.injEq] at e3
  obtain ⟨rfl,rfl,_⟩:=e3
  have hrow:=ho.en.row
  rw [e2] at hrow
  have h0:=(hrow.cellAt (k * 4) (by omega)).trans (ho.en.at0 k hk)
  rw [Nat.zero_add] at hc
  rw [h0] at hc
  simp only [Option.some.injEq,Value.slice.injEq] at hc
  obtain ⟨h1,h2,h3⟩:=hc
  refine ⟨fun e=>?_,?_⟩
  ·rw [← h3]; exact hs k hk (h1.trans e)
  ·rw [← h2,own_slen ho.en h.en k hk]; exact (hz.2.2.2.1 k hk).1
theorem nxQ_top (sl:Nat→Sl)(k M:Nat):∀ n,(∀ j,j<n→(sl j).2.1≤M)→nxQ sl k n≤k+n * (2 * M+3)
 | 0,_=>by simp [nxQ]
 | n+1,h=>by
  have h1:=nxQ_top sl k M n (fun j hj=>h j (by omega))
  have h2:=h n (by omega)
  have e:(n+1) * (2 * M+3)=n * (2 * M+3)+(2 * M+3):=Nat.succ_mul _ _
  rw [e]
  simp only [nxQ]
  omega
theorem nxQ_small {sl:Nat→Sl}{k n1 n2:Nat}(hk:k≤100000000000000)(h1:n1≤1048576)(h2:n2≤1048576)(hs:∀ j,j<n2→(sl j).2.1≤1048576):nxQ sl (k+2 * n1) n2≤k+2199029400000:=by
 have h:=nxQ_top sl (k+2 * n1) 1048576 n2 hs
 have h3:n2 * (2 * 1048576+3)≤1048576 * (2 * 1048576+3):=Nat.mul_le_mul_right _ h2
 omega
theorem toCrl_g (a1:Option Addr)(n1 c1:Nat)(a2:Option Addr)(n2 c2:Nat)(a3:Option Addr)(n3 c3:Nat)(x:CP)(w:World)(h:Crs w a1 n1 a2 n2 a3 n3 x)(hz:CpOk n1 n2 n3 x) :
  Calls Tryz.prog 6 #[crv a1 n1 c1 a2 n2 c2 a3 n3 c3 x] w fun e w'=>∃ b1 b2 b3,e=.returned (crv b1 n1 n1 b2 n2 n2 b3 n3 n3 x)∧CrG w' b1 n1 b2 n2 b3 n3 x∧(∃ v1 sl pv vs,OwnC w.heap.size w' b1 n1 n1 b2 n2 n2 b3 n3 n3 v1 sl pv vs x.sig∧∀ j,j<n2→(sl j).2.1≤1048576)∧Below w.heap.size w w':=by
 refine (toCrl_own a1 n1 c1 a2 n2 c2 a3 n3 c3 x w h hz).mono ?_
 rintro e w' ⟨b1,b2,b3,rfl,hk,hb⟩
 obtain ⟨hc,v1,sl,pv,vs,ho,hs⟩:=hk.now
 exact ⟨b1,b2,b3,rfl,crG_of hc hz ho (fun j hj=>(hs j hj).2),⟨v1,sl,pv,vs,ho,fun j hj=>by rw [(hs j hj).1]; exact (hz.2.2.2.1 j hj).1⟩,hb⟩
theorem TouchS.below_lo {S:Nat→Prop}{w w1 w2:World}{lo:Nat}(hb:Below lo w w1)(h:TouchS S w1 w2)(hS:∀ i,S i→lo≤i)(hl:lo≤w1.heap.size):Below lo w w2:=by
 refine ⟨h.os.trans hb.os,h.tape.trans hb.tape,h.output.trans hb.output,Nat.le_trans hb.size h.size,fun i hi=>?_⟩
 exact (h.block i (by omega) (fun q=>by have:=hS i q; omega)).trans (hb.block i hi)
theorem owns_typed {w w2:World}{B t s m c g tg:Nat}{b:Option Addr}{vs:List Value}{cs:Array Value}{fr:Nat × Nat}(h:w.ownsRow B t s (.slice b m c) m vs)(hg:w.heap[g]? = some (.cells cs tg fr))(hne:tg≠t)(ht:Touch g (g+1) w w2):w2.ownsRow B t s (.slice b m c) m vs:=by
 refine ⟨h.1,?_⟩
 rcases h.2 with h0 | ⟨g',cap,cur,hv,hb,hh,rest⟩
 ·exact .inl h0
 ·refine .inr ⟨g',cap,cur,hv,hb,(ht.block g' (Array.getElem?_eq_some_iff.1 hh).1 ?_).trans hh,rest⟩
  have:g'≠g:=fun e=>by
   subst e
   rw [hh] at hg
   simp only [Option.some.injEq,Obj.cells.injEq] at hg
   exact hne hg.2.1.symm
  omega
theorem OwnC.typed {B g tg:Nat}{w w2:World}{a1:Option Addr}{n1 c1:Nat}{a2:Option Addr}{n2 c2:Nat}{a3:Option Addr}{n3 c3:Nat}{v1:List Value}{sl:Nat→Sl}{pv:Nat→List Value}{vs:List Value}{bs:List Int}{cs:Array Value}{fr:Nat × Nat}(h:OwnC B w a1 n1 c1 a2 n2 c2 a3 n3 c3 v1 sl pv vs bs)(hg:w.heap[g]? = some (.cells cs tg fr))(h1:tg≠132)(h2:tg≠74)(h3:tg≠5)(ht:Touch g (g+1) w w2):OwnC B w2 a1 n1 c1 a2 n2 c2 a3 n3 c3 v1 sl pv vs bs :=
 ⟨fun hp=>owns_typed (h.nm hp) hg h1 ht,⟨owns_typed h.en.row hg h2 ht,h.en.at0,fun j hj hp=>owns_typed (h.en.each j hj hp) hg h1 ht,h.en.apart⟩,⟨owns_typed h.sg.row hg h3 ht,h.sg.byte⟩,h.ap⟩
open Go.RowKit Go.Sort
structure FrL (w3:World)(K:List (Nat × Array Value × Nat))(W:World):Prop where
 below:Below w3.heap.size w3 W
 all:∀ p∈K,W.heap[p.1]? = some (.cells p.2.1 p.2.2 (0,0))
theorem FrL.on {w3 W W':World}{K:List (Nat × Array Value × Nat)}(h:FrL w3 K W)(hb:Below W.heap.size W W'):FrL w3 K W':=⟨h.below.trans (hb.mono h.below.size),fun p hp=>below_kept (h.all p hp) hb⟩
theorem FrL.mark {w3 W W':World}{K:List (Nat × Array Value × Nat)}{S:Nat→Prop}(h:FrL w3 K W)(ht:TouchS S W W')(h1:∀ i,S i→w3.heap.size≤i)(h2:∀ p∈K,¬ S p.1):FrL w3 K W' :=
 ⟨ht.below_lo h.below h1 h.below.size,fun p hp=>(ht.block p.1 (Array.getElem?_eq_some_iff.1 (h.all p hp)).1 (h2 p hp)).trans (h.all p hp)⟩
theorem FrL.add {w3 W:World}{K:List (Nat × Array Value × Nat)}(h:FrL w3 K W)(q:Nat × Array Value × Nat)(hq:W.heap[q.1]? = some (.cells q.2.1 q.2.2 (0,0))):FrL w3 (q::K) W :=
 ⟨h.below,fun p hp=>by
  rcases List.mem_cons.1 hp with rfl | hp
  ·exact hq
  ·exact h.all p hp⟩
theorem eqCrl_raw (a1:Option Addr)(n1 c1:Nat)(a2:Option Addr)(n2 c2:Nat)(a3:Option Addr)(n3 c3:Nat)(b1:Option Addr)(d1:Nat)(b2:Option Addr)(d2:Nat)(b3:Option Addr)(d3:Nat)(x:CP)(w:World)(h:Crs w a1 n1 a2 n2 a3 n3 x)(h2:Crs w b1 n1 b2 n2 b3 n3 x)(hm:n3≤1048576) :
  Calls Tryz.prog 9 #[.agg #[.slice a1 n1 c1,.int .i64 x.num,.int .i64 x.base,.int .i64 x.tm,.int .i64 x.next,.int .i64 x.scope,.bool x.ind,.slice a2 n2 c2,.slice a3 n3 c3],.agg #[.slice b1 n1 d1,.int .i64 x.num,.int .i64 x.base,.int .i64 x.tm,.int .i64 x.next,.int .i64 x.scope,.bool x.ind,.slice b2 n2 d2,.slice b3 n3 d3]] w fun e w'=>e=.returned (.bool true)∧Below w.heap.size w w' :=
 eqCrl_same a1 n1 c1 a2 n2 c2 a3 n3 c3 b1 d1 b2 d2 b3 d3 x w h h2 hm
theorem markCrl_raw (B:Nat)(S:Nat→Prop)(a1:Option Addr)(n1 c1:Nat)(a2:Option Addr)(n2 c2:Nat)(a3:Option Addr)(n3 c3:Nat)(x:CP)(v1:List Value)(sl:Nat→Sl)(pv:Nat→List Value)(vs:List Value)(bs:List Int)(k:Nat)(w:World)(h:OwnC B w a1 n1 c1 a2 n2 c2 a3 n3 c3 v1 sl pv vs bs)(hin:InC S a1 n1 a2 n2 a3 sl)(hz:CpOk n1 n2 n3 x)(hs:∀ j,j<n2→(sl j).2.1≤1048576)(h0:0<k)(hk:k≤100000000000000) :
  Calls Tryz.prog 11 #[.agg #[.slice a1 n1 c1,.int .i64 x.num,.int .i64 x.base,.int .i64 x.tm,.int .i64 x.next,.int .i64 x.scope,.bool x.ind,.slice a2 n2 c2,.slice a3 n3 c3],.int .i64 k] w fun e w'=>e=.returned (.int .i64 (nxQ sl (k+2 * n1) n2+n3:Nat))∧OwnC B w' a1 n1 c1 a2 n2 c2 a3 n3 c3 (mkPs k n1) sl (mkP sl (k+2 * n1) pv n2) (mkV sl (k+2 * n1) vs n2) (marks (nxQ sl (k+2 * n1) n2) n3)∧TouchS S w w'∧nxQ sl (k+2 * n1) n2+n3≤k+2199031000000:=by
 have hq:=nxQ_small hk hz.1 hz.2.2.1 hs
 have h3:=hz.2.2.2.2
 refine (markCrl_any B S a1 n1 c1 a2 n2 c2 a3 n3 c3 x v1 sl pv vs bs k w h hin hz.1 hz.2.2.1 h3 hs h0 (by omega)).mono ?_
 rintro e w' ⟨q1,q2,q3⟩
 exact ⟨q1,q2,q3,by omega⟩
theorem heldCrl_raw (B:Nat)(a1:Option Addr)(n1 c1:Nat)(a2:Option Addr)(n2 c2:Nat)(a3:Option Addr)(n3 c3:Nat)(x:CP)(sl:Nat→Sl)(pv:Nat→List Value)(vs:List Value)(k:Nat)(w:World)(h:OwnC B w a1 n1 c1 a2 n2 c2 a3 n3 c3 (mkPs k n1) sl (mkP sl (k+2 * n1) pv n2) (mkV sl (k+2 * n1) vs n2) (marks (nxQ sl (k+2 * n1) n2) n3))(hz:CpOk n1 n2 n3 x)(hs:∀ j,j<n2→(sl j).2.1≤1048576)(h0:0<k)(hk:k≤100000000000000) :
  Calls Tryz.prog 12 #[.agg #[.slice a1 n1 c1,.int .i64 x.num,.int .i64 x.base,.int .i64 x.tm,.int .i64 x.next,.int .i64 x.scope,.bool x.ind,.slice a2 n2 c2,.slice a3 n3 c3],.int .i64 k] w fun e w'=>e=.returned (.int .i64 (nxQ sl (k+2 * n1) n2+n3:Nat))∧Below w.heap.size w w' :=
 heldCrl_any B a1 n1 c1 a2 n2 c2 a3 n3 c3 x sl pv vs k w h hz.1 hz.2.2.1 hz.2.2.2.2 hs h0 (by have:=nxQ_small (sl:=sl) hk hz.1 hz.2.2.1 hs; omega)
theorem szCrl_raw (a1:Option Addr)(n1 c1:Nat)(a2:Option Addr)(n2 c2:Nat)(a3:Option Addr)(n3 c3:Nat)(x:CP)(lf:Int)(w:World)(h:Crs w a1 n1 a2 n2 a3 n3 x)(hl0:0≤lf)(hl1:lf≤1048576) :
  Calls Tryz.prog 4 #[.agg #[.slice a1 n1 c1,.int .i64 x.num,.int .i64 x.base,.int .i64 x.tm,.int .i64 x.next,.int .i64 x.scope,.bool x.ind,.slice a2 n2 c2,.slice a3 n3 c3],.int .i64 lf] w fun e w'=>∃ r,e=.returned (.int .i64 r)∧(r<0∨(0≤r∧r≤1048576∧CpOk n1 n2 n3 x))∧Below w.heap.size w w' :=
 szCrl_any a1 n1 c1 a2 n2 c2 a3 n3 c3 x lf w h hl0 hl1
open Go.RowKit
theorem saV_len (sc x h n:Int)(ms:List Int):(saV sc x h n ms).1.length≤1000:=by
 unfold saV
 split
 ·rename_i hk
  split
  ·rename_i h1
   have hg:grpP x h n:=hk.elim (fun a=>a.2) (fun a=>absurd a.1 (by omega))
   have hs:secP x:=hg.1
   show (sgG x ms).length≤1000
   unfold sgG
   rw [List.length_append]
   have e1:(signR x ms).1.1≤9223372036854775807:=by unfold signR; rw [if_pos hs]; exact Int.le_trans (chalN_bd _ _ _).2 (by decide)
   have e2:(signR x ms).1.2≤9223372036854775807:=by unfold signR; rw [if_pos hs]; show (nonN x ms+sigE x ms * x) % 500000003≤_; omega
   have:=putI_len _ e1
   have:=putI_len _ e2
   omega
  ·rename_i h1
   have hkk:kP h n:=hk.elim (fun a=>absurd a.1 h1) (fun a=>a.2)
   show (saT x h n ms).1.length≤1000
   unfold saT
   split
   ·simp
   ·show (sgT x h n ms).length≤1000
    unfold sgT
    rw [List.length_append,flatL_len,List.length_append,endSs_len,pathN_len]
    have hb:n≤9223372036854775807:=by
     have a1:=hkk.2.2
     have a2:2 ^ h.toNat≤2 ^ 5:=Nat.pow_le_pow_right (by decide) (by have:=hkk.1; omega)
     omega
    have:=putI_len n hb
    have:=hkk.1
    omega
 ·simp
theorem eqSecret_same (t:Sc4)(w:World) :
  Calls Tryz.prog 10 #[scw t,scw t] w fun e w'=>e=.returned (.bool true)∧Below w.heap.size w w':=by
 obtain ⟨a,b,c,d⟩:=t
 unfold scw
 have z1:(a != a)=false:=by simp
 have z2:(b != b)=false:=by simp
 have z3:(c != c)=false:=by simp
 have z4:(d != d)=false:=by simp
 have hbb:Below w.heap.size w ((w.alloc (.cells #[.int .i64 a,.int .u64 b,.int .i64 c,.int .i64 d] 39)).alloc (.cells #[.int .i64 a,.int .u64 b,.int .i64 c,.int .i64 d] 39)):=two_below _ _ _
 go_enter Tryz.func10,Tryz.ntmps10
 go_wp2
 go_ret
 exact ⟨rfl,hbb⟩
open Go.RowKit Go.Sort
structure AnV (B:Nat)(w:World)(p1:Option Addr)(m f1:Nat)(p2:Option Addr)(n f2:Nat)(p3:Option Addr)(r f3:Nat)(z:CP)(sl:Nat→Sl):Prop where
 nm:0<m→w.ownsRow B 132 2 (.slice p1 m f1) m (flPt z.parts)
 en:OwnQ B w p2 n f2 sl (fun j=>flPt (z.ents.getD j default).parts) (flG z.ents sl n)
 sg:Own B w p3 r f3 z.sig
 l1:z.parts.length=m
 l2:z.ents.length=n
 hl:∀ j,j<n→(sl j).2.1=(z.ents.getD j default).parts.length
theorem AnV.low {B:Nat}{S:Nat→Prop}{w w':World}{p1:Option Addr}{m f1:Nat}{p2:Option Addr}{n f2:Nat}{p3:Option Addr}{r f3:Nat}{z:CP}{sl:Nat→Sl}(h:AnV B w p1 m f1 p2 n f2 p3 r f3 z sl)(k:TouchS S w w')(hS:∀ i,S i→i<B):AnV B w' p1 m f1 p2 n f2 p3 r f3 z sl :=
 ⟨fun hp=>ownsRow_keepS (h.nm hp) k (fun g _ hg q=>by have:=hS g q; omega),h.en.keepS k (fun g _ hg q=>by have:=hS g q; omega) (fun j hj hp g _ hg q=>by have:=hS g q; omega),⟨ownsRow_keepS h.sg.row k (fun g _ hg q=>by have:=hS g q; omega),h.sg.byte⟩,h.l1,h.l2,h.hl⟩
theorem AnV.kept {B:Nat}{w w':World}{p1:Option Addr}{m f1:Nat}{p2:Option Addr}{n f2:Nat}{p3:Option Addr}{r f3:Nat}{z:CP}{sl:Nat→Sl}(h:AnV B w p1 m f1 p2 n f2 p3 r f3 z sl)(hb:Below w.heap.size w w'):AnV B w' p1 m f1 p2 n f2 p3 r f3 z sl :=
 h.low (S:=fun _=>False) (TouchS.of_below hb) (fun _ q=>q.elim)
theorem AnV.typed {B g tg:Nat}{w w2:World}{p1:Option Addr}{m f1:Nat}{p2:Option Addr}{n f2:Nat}{p3:Option Addr}{r f3:Nat}{z:CP}{sl:Nat→Sl}{cs:Array Value}{fr:Nat × Nat}(h:AnV B w p1 m f1 p2 n f2 p3 r f3 z sl)(hg:w.heap[g]? = some (.cells cs tg fr))(h1:tg≠132)(h2:tg≠74)(h3:tg≠5)(ht:Touch g (g+1) w w2):AnV B w2 p1 m f1 p2 n f2 p3 r f3 z sl :=
 ⟨fun hp=>owns_typed (h.nm hp) hg h1 ht,⟨owns_typed h.en.row hg h2 ht,h.en.at0,fun j hj hp=>owns_typed (h.en.each j hj hp) hg h1 ht,h.en.apart⟩,⟨owns_typed h.sg.row hg h3 ht,h.sg.byte⟩,h.l1,h.l2,h.hl⟩
theorem AnV.lower {B B':Nat}{w:World}{p1:Option Addr}{m f1:Nat}{p2:Option Addr}{n f2:Nat}{p3:Option Addr}{r f3:Nat}{z:CP}{sl:Nat→Sl}(h:AnV B w p1 m f1 p2 n f2 p3 r f3 z sl)(hB:B'≤B):AnV B' w p1 m f1 p2 n f2 p3 r f3 z sl :=
 ⟨fun hp=>owns_monoC (h.nm hp) hB,h.en.lowerC hB,h.sg.mono hB,h.l1,h.l2,h.hl⟩
theorem AnV.crs {B:Nat}{w:World}{p1:Option Addr}{m f1:Nat}{p2:Option Addr}{n f2:Nat}{p3:Option Addr}{r f3:Nat}{z:CP}{sl:Nat→Sl}(h:AnV B w p1 m f1 p2 n f2 p3 r f3 z sl)(hz:CpOk m n r z):Crs w p1 m p2 n p3 r z:=by
 obtain ⟨z1,z2,z3,z4,z5⟩:=hz
 refine ⟨?_,⟨h.l2,by omega,fun k hk=>?_⟩,h.sg.toRow,by omega⟩
 ·rcases Nat.eq_zero_or_pos m with q | q
  ·exact ⟨h.l1,by omega,fun k hk=>by omega⟩
  ·exact pts_of_row (h.nm q) h.l1 (by omega) (fun k hk=>Nat.le_trans (z2 k hk) (by omega))
 ·obtain ⟨g,rfl,_,hg⟩:=ownsRow_shape h.en.row (by omega)
  obtain ⟨f0,f1,f2,f3⟩:=flG_get z.ents sl n k hk
  have hzk:=z4 k hk
  have e:=h.hl k hk
  refine ⟨g,0,(sl k).1,(sl k).2.1,(sl k).2.2,rfl,hg,⟨?_,?_,?_,?_⟩,?_⟩
  ·rw [Nat.zero_add]; exact (h.en.row.cellAt (k * 4) (by omega)).trans f0
  ·rw [Nat.zero_add]; exact (h.en.row.cellAt (k * 4+1) (by omega)).trans f1
  ·rw [Nat.zero_add]; exact (h.en.row.cellAt (k * 4+2) (by omega)).trans f2
  ·rw [Nat.zero_add]; exact (h.en.row.cellAt (k * 4+3) (by omega)).trans f3
  ·rcases Nat.eq_zero_or_pos (sl k).2.1 with q | q
   ·exact ⟨by omega,by omega,fun i hi=>by omega⟩
   ·exact pts_of_row (h.en.each k hk q) e.symm (by have:=hzk.1; omega) (fun i hi=>Nat.le_trans (hzk.2 i (by omega)) (by omega))
theorem anV_zero {B:Nat}{w:World}:AnV B w none 0 0 none 0 0 none 0 0 zeroC (fun _=>(none,0,0)) :=
 ⟨fun h=>absurd h (Nat.lt_irrefl _),⟨⟨rfl,.inl ⟨rfl,rfl⟩⟩,fun _ h=>absurd h (Nat.not_lt_zero _),fun _ h=>absurd h (Nat.not_lt_zero _),fun _ _ h=>absurd h (Nat.not_lt_zero _)⟩,⟨⟨rfl,.inl ⟨rfl,rfl⟩⟩,fun i=>by simp [zeroC]⟩,rfl,rfl,fun _ h=>absurd h (Nat.not_lt_zero _)⟩
structure AgS (w:World)(p1:Option Addr)(m f1:Nat)(p2:Option Addr)(n f2:Nat)(p3:Option Addr)(r f3:Nat)(z:CP):Prop where
 ex:∃ B sl,AnV B w p1 m f1 p2 n f2 p3 r f3 z sl
theorem AgS.kept {w w':World}{p1:Option Addr}{m f1:Nat}{p2:Option Addr}{n f2:Nat}{p3:Option Addr}{r f3:Nat}{z:CP}(h:AgS w p1 m f1 p2 n f2 p3 r f3 z)(hb:Below w.heap.size w w'):AgS w' p1 m f1 p2 n f2 p3 r f3 z:=by
 obtain ⟨B,sl,q⟩:=h.ex
 exact ⟨B,sl,q.kept hb⟩
theorem AgS.touched {g tg:Nat}{w w2:World}{p1:Option Addr}{m f1:Nat}{p2:Option Addr}{n f2:Nat}{p3:Option Addr}{r f3:Nat}{z:CP}{cs:Array Value}{fr:Nat × Nat}(h:AgS w p1 m f1 p2 n f2 p3 r f3 z)(hg:w.heap[g]? = some (.cells cs tg fr))(h1:tg≠132∧tg≠74)(h3:tg≠5)(ht:Touch g (g+1) w w2):AgS w2 p1 m f1 p2 n f2 p3 r f3 z:=by
 obtain ⟨B,sl,q⟩:=h.ex
 exact ⟨B,sl,q.typed hg h1.1 h1.2 h3 ht⟩
theorem AgS.crs {w:World}{p1:Option Addr}{m f1:Nat}{p2:Option Addr}{n f2:Nat}{p3:Option Addr}{r f3:Nat}{z:CP}(h:AgS w p1 m f1 p2 n f2 p3 r f3 z)(hz:CpOk m n r z):Crs w p1 m p2 n p3 r z:=by
 obtain ⟨B,sl,q⟩:=h.ex
 exact q.crs hz
structure AgI (B:Nat)(w:World)(p1:Option Addr)(m f1:Nat)(p2:Option Addr)(n f2:Nat)(p3:Option Addr)(r f3:Nat)(z:CP):Prop where
 ex:∃ sl,AnV B w p1 m f1 p2 n f2 p3 r f3 z sl∧∃ v1 pv vs,OwnC B w p1 m f1 p2 n f2 p3 r f3 v1 sl pv vs z.sig
theorem AgI.s {B:Nat}{w:World}{p1:Option Addr}{m f1:Nat}{p2:Option Addr}{n f2:Nat}{p3:Option Addr}{r f3:Nat}{z:CP}(h:AgI B w p1 m f1 p2 n f2 p3 r f3 z):AgS w p1 m f1 p2 n f2 p3 r f3 z:=by
 obtain ⟨sl,q,_⟩:=h.ex
 exact ⟨B,sl,q⟩
theorem ownV_zero {B:Nat}{w:World}:OwnC B w none 0 0 none 0 0 none 0 0 [] (fun _=>(none,0,0)) (fun _=>[]) [] [] :=
 ⟨fun h=>absurd h (Nat.lt_irrefl _),⟨⟨rfl,.inl ⟨rfl,rfl⟩⟩,fun _ h=>absurd h (Nat.not_lt_zero _),fun _ h=>absurd h (Nat.not_lt_zero _),fun _ _ h=>absurd h (Nat.not_lt_zero _)⟩,⟨⟨rfl,.inl ⟨rfl,rfl⟩⟩,fun i=>by simp⟩,fun _ h=>absurd h (Nat.not_lt_zero _)⟩
theorem agI_zero {B:Nat}{w:World}:AgI B w none 0 0 none 0 0 none 0 0 zeroC:=⟨_,anV_zero,_,_,_,ownV_zero⟩
def withS (x:CP)(s:List Int):CP:=⟨x.parts,x.num,x.base,x.tm,x.next,x.scope,x.ind,x.ents,s⟩
end Go.Proofs.YtnmplldhdfingaaGreatDoor
