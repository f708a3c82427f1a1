import Derived.Lib.QuietBelow
import Derived.Test.YtnmplldhdfingaaGreatDoorFG07
import Derived.Test.YtnmplldhdfingaaGreatDoorFG20
set_option maxRecDepth 10000
set_option maxHeartbeats 8000000
set_option linter.unusedVariables false
namespace Go.Proofs.YtnmplldhdfingaaGreatDoor
open Go.RowKit
theorem eqCrl_same (a1:Option Addr)(n1 c1:Nat)(a2:Option Addr)(n2 c2:Nat)(a3:Option Addr)(n3 c3:Nat)(b1:Option Addr)(d1:Nat)(b2:Option Addr)(d2:Nat)(b3:Option Addr)(d3:Nat)(x:CP)(w:World)(h:Crs w a1 n1 a2 n2 a3 n3 x)(h2:Crs w b1 n1 b2 n2 b3 n3 x)(hm:n3≤1048576) :
  Calls Tryz.prog 9 #[crv a1 n1 c1 a2 n2 c2 a3 n3 c3 x,crv b1 n1 d1 b2 n2 d2 b3 n3 d3 x] w fun e w'=>e=.returned (.bool true)∧Below w.heap.size w w':=by
 have H1:Hid (Crs w a1 n1 a2 n2 a3 n3 x):=h
 have H2:Hid (Crs w b1 n1 b2 n2 b3 n3 x):=h2
 clear h h2
 unfold crv
 obtain ⟨W0,hW0⟩:∃ W0,W0=((w.alloc (.cells #[.slice a1 n1 c1,.int .i64 x.num,.int .i64 x.base,.int .i64 x.tm,.int .i64 x.next,.int .i64 x.scope,.bool x.ind,.slice a2 n2 c2,.slice a3 n3 c3] 38)).alloc (.cells #[.slice b1 n1 d1,.int .i64 x.num,.int .i64 x.base,.int .i64 x.tm,.int .i64 x.next,.int .i64 x.scope,.bool x.ind,.slice b2 n2 d2,.slice b3 n3 d3] 38)):=⟨_,rfl⟩
 have hbl:Below w.heap.size w W0:=by rw [hW0]; exact ((Below.refl _ _).alloc (Nat.le_refl _) _).alloc (by simp) _
 have b0:=two_blocks w (.cells #[.slice a1 n1 c1,.int .i64 x.num,.int .i64 x.base,.int .i64 x.tm,.int .i64 x.next,.int .i64 x.scope,.bool x.ind,.slice a2 n2 c2,.slice a3 n3 c3] 38) (.cells #[.slice b1 n1 d1,.int .i64 x.num,.int .i64 x.base,.int .i64 x.tm,.int .i64 x.next,.int .i64 x.scope,.bool x.ind,.slice b2 n2 d2,.slice b3 n3 d3] 38)
 rw [← hW0] at b0
 have t1:(x.num != x.num)=false:=by simp
 have t2:(x.base != x.base)=false:=by simp
 have t3:(x.tm != x.tm)=false:=by simp
 have t4:(x.next != x.next)=false:=by simp
 have t5:(x.scope != x.scope)=false:=by simp
 have t6:(x.ind != x.ind)=false:=by simp
 go_enter Tryz.func9,Tryz.ntmps9
 go_wp2_with fail
 rw [← hW0]
 clear hW0
 refine (eqName_same a1 b1 n1 c1 d1 x.parts _ (H1.out.kept hbl).nm (H2.out.kept hbl).nm).mono ?_
 rintro e w1 ⟨rfl,hb1⟩
 have l0:=(Array.getElem?_eq_some_iff.1 b0.2).1
 have y0:=(hb1.block _ (by omega)).trans b0.1
 have y1:=(hb1.block _ l0).trans b0.2
 have p1:w1.cell? ⟨w.heap.size,1,none⟩=some (.int .i64 x.num):=qk y0 rfl
 have q1:w1.cell? ⟨w.heap.size+1,1,none⟩=some (.int .i64 x.num):=qk y1 rfl
 have p2:w1.cell? ⟨w.heap.size,2,none⟩=some (.int .i64 x.base):=qk y0 rfl
 have q2:w1.cell? ⟨w.heap.size+1,2,none⟩=some (.int .i64 x.base):=qk y1 rfl
 have p3:w1.cell? ⟨w.heap.size,3,none⟩=some (.int .i64 x.tm):=qk y0 rfl
 have q3:w1.cell? ⟨w.heap.size+1,3,none⟩=some (.int .i64 x.tm):=qk y1 rfl
 have p4:w1.cell? ⟨w.heap.size,4,none⟩=some (.int .i64 x.next):=qk y0 rfl
 have q4:w1.cell? ⟨w.heap.size+1,4,none⟩=some (.int .i64 x.next):=qk y1 rfl
 have p5:w1.cell? ⟨w.heap.size,5,none⟩=some (.int .i64 x.scope):=qk y0 rfl
 have q5:w1.cell? ⟨w.heap.size+1,5,none⟩=some (.int .i64 x.scope):=qk y1 rfl
 have p6:w1.cell? ⟨w.heap.size,6,none⟩=some (.bool x.ind):=qk y0 rfl
 have q6:w1.cell? ⟨w.heap.size+1,6,none⟩=some (.bool x.ind):=qk y1 rfl
 have p7:w1.cell? ⟨w.heap.size,7,none⟩=some (.slice a2 n2 c2):=qk y0 rfl
 have q7:w1.cell? ⟨w.heap.size+1,7,none⟩=some (.slice b2 n2 d2):=qk y1 rfl
 have HB1:Hid (Below w.heap.size w w1):=hbl.trans (hb1.mono hbl.size)
 have Y0:Hid (_=_):=y0
 have Y1:Hid (_=_):=y1
 have l1:w.heap.size+1<w1.heap.size:=(Array.getElem?_eq_some_iff.1 y1).1
 clear hb1 hbl b0 y0 y1 l0
 go_wp2_with fail
 refine (eqGoneS_same a2 b2 n2 c2 d2 x.ents _ (H1.out.kept HB1.out).en (H2.out.kept HB1.out).en).mono ?_
 rintro e w2 ⟨rfl,hb2⟩
 have y0:=(hb2.block _ (by omega)).trans Y0.out
 have y1:=(hb2.block _ l1).trans Y1.out
 clear p1 p2 p3 p4 p5 p6 p7 q1 q2 q3 q4 q5 q6 q7
 have p8:w2.cell? ⟨w.heap.size,8,none⟩=some (.slice a3 n3 c3):=qk y0 rfl
 have q8:w2.cell? ⟨w.heap.size+1,8,none⟩=some (.slice b3 n3 d3):=qk y1 rfl
 have HB2:Hid (Below w.heap.size w w2):=HB1.out.trans (hb2.mono HB1.out.size)
 clear hb2 y0 y1 Y0 Y1 HB1
 go_wp2_with fail
 refine (eqByteS_any a3 b3 n3 n3 c3 d3 x.sig x.sig _ (H1.out.kept HB2.out).sg (H2.out.kept HB2.out).sg (by unfold maxLen; omega) (by unfold maxLen; omega)).mono ?_
 rintro e w3 ⟨rfl,hb3⟩
 have HB3:Hid (Below w.heap.size w w3):=HB2.out.trans (hb3.mono HB2.out.size)
 rw [decide_eq_true (rfl:x.sig=x.sig)]
 clear hb3 HB2 p8 q8
 go_wp2
 go_ret
 exact ⟨rfl,HB3.out⟩
open Go.RowKit
theorem wrap_i64m (v:Int)(h0 : -9223372036854775808≤v)(h1:v≤9223372036854775807):IntKind.i64.wrap v=v:=by
 rw [IntKind.wrap_i64]; omega
def mtxL (k:Nat)(out:ByteArray):ByteArray:=if h:k=0 then out else mtxL (k / 10) (strOfNums [((48+k % 10:Nat):Int)]++out)
termination_by k
decreasing_by omega
theorem mtxL_zero (out:ByteArray):mtxL 0 out=out:=by rw [mtxL]; simp
theorem mtxL_pos {k:Nat}(h:k≠0)(out:ByteArray):mtxL k out=mtxL (k / 10) (strOfNums [((48+k % 10:Nat):Int)]++out):=by rw [mtxL]; simp [h]
def mtx (k:Nat):ByteArray:=(⟨#[109]⟩:ByteArray)++mtxL k ⟨#[]⟩
theorem markText_any (k:Nat)(w:World)(h0:0<k)(h1:k≤4000000000000000) :
  Calls Tryz.prog 116 #[.int .i64 k] w fun e w'=>e=.returned (.string (mtx k))∧Below w.heap.size w w':=by
 have hki:¬ ((k:Int)≤0):=by omega
 go_enter Tryz.func116,Tryz.ntmps116
 go_wp2
 go_loopw [0,3] (fun i s wr=>∃ (j:Nat) (out:ByteArray),out.size+j≤4000000000000000∧i=.int .i64 j∧s=.string out∧Hid (mtxL j out=mtxL k ⟨#[]⟩)∧Below w.heap.size w wr) (fun i _ _=>(intOf i).toNat)
 case atStart=>exact ⟨k,⟨#[]⟩,by show 0+k≤4000000000000000; omega,rfl,rfl,rfl,Below.refl _ _⟩
 case round =>
  obtain ⟨j,out,hj,rfl,rfl,HM,hbr⟩:=hrel
  by_cases hj0:j=0
  ·subst hj0
   have HE:Hid (out=mtxL k ⟨#[]⟩):=by show _=_; rw [← HM.out,mtxL_zero]
   have hni:¬ ((0:Int)<((0:Nat):Int)):=by decide
   have hsz:¬ (9223372036854775807<1+out.size):=by omega
   go_wp2
   go_ret
   exact ⟨by unfold mtx; rw [← HE.out]; rfl,hbr⟩
  ·have hji:(0:Int)<(j:Int):=by omega
   have htm:(j:Int).tmod 10=(j:Int) % 10:=Int.tmod_eq_emod_of_nonneg (by omega)
   have hw1:IntKind.i64.wrap ((j:Int).tmod 10)=(j:Int) % 10:=by rw [htm]; exact wrap_i64m _ (by omega) (by omega)
   have hw2:IntKind.i64.wrap (48+(j:Int) % 10)=48+(j:Int) % 10:=wrap_i64m _ (by omega) (by omega)
   have hw3:IntKind.u8.wrap (48+(j:Int) % 10)=48+(j:Int) % 10:=by rw [IntKind.wrap_u8]; omega
   have hd:((48+j % 10:Nat):Int)=48+(j:Int) % 10:=by omega
   have HO:Hid (Own w.heap.size (wr.alloc (.cells #[.int .u8 (48+(j:Int) % 10)] 5)) (some ⟨wr.heap.size,0,none⟩) 1 1 [48+(j:Int) % 10]):=⟨⟨rfl,.inr ⟨wr.heap.size,1,#[.int .u8 (48+(j:Int) % 10)],rfl,hbr.size,heap_alloc_new wr _,Nat.le_refl _,by decide,rfl,rfl⟩⟩,fun k=>by cases k with | zero=>exact ⟨by show (0:Int)≤48+(j:Int) % 10; omega,by show 48+(j:Int) % 10≤255; omega⟩ | succ k=>simp⟩
   have hcv:=convert_own HO.out
   have HM2:Hid (mtxL (j / 10) (strOfNums [48+(j:Int) % 10]++out)=mtxL k ⟨#[]⟩):=by show _=_; rw [← hd,← mtxL_pos hj0]; exact HM.out
   have hdv:(j:Int).tdiv 10=((j / 10:Nat):Int):=by rw [Int.tdiv_eq_ediv_of_nonneg (by omega)]; omega
   have hw4:IntKind.i64.wrap ((j:Int).tdiv 10)=((j / 10:Nat):Int):=by rw [hdv]; exact wrap_i64m _ (by omega) (by omega)
   have hs1:(strOfNums [48+(j:Int) % 10]).size=1:=strOfNums_size _
   have hsz:¬ (9223372036854775807<(strOfNums [48+(j:Int) % 10]).size+out.size):=by rw [hs1]; omega
   have B2:Hid (Below w.heap.size w (wr.alloc (.cells #[.int .u8 (48+(j:Int) % 10)] 5))):=hbr.trans (((Below.refl _ _).alloc (Nat.le_refl _) _).mono hbr.size)
   go_wp2
   refine ⟨⟨j / 10,strOfNums [48+(j:Int) % 10]++out,?_,by go_num,rfl,HM2,B2.out⟩,?_⟩
   ·rw [ByteArray.size_append,hs1]; omega
   ·show ((j:Int) / 10).toNat<(j:Int).toNat
    omega
open Go.RowKit
theorem ownsRow_shape {w:World}{B t s n cap:Nat}{a:Option Addr}{vs:List Value}(h:w.ownsRow B t s (.slice a n cap) n vs)(hn:0<n):∃ g,a=some ⟨g,0,none⟩∧B≤g∧g<w.heap.size:=by
 rcases h.2 with ⟨_,h0⟩ | ⟨g,c,cur,h1,hb,hg,_⟩
 ·omega
 ·simp only [Value.slice.injEq] at h1
  refine ⟨g,h1.1,hb,?_⟩
  by_cases hl:g<w.heap.size
  ·exact hl
  ·rw [Array.getElem?_eq_none (by omega)] at hg
   cases hg
def mkPs (k:Nat):Nat→List Value
 | 0=>[]
 | n+1=>mkPs k n++[.int .i64 ((k+2 * n:Nat):Int),.string (mtx (k+2 * n+1))]
theorem mkPs_len (k n:Nat):(mkPs k n).length=n * 2:=by
 induction n with
 | zero=>rfl
 | succ n ih=>simp only [mkPs,List.length_append,ih,List.length_cons,List.length_nil]; omega
theorem mkPs_get (k:Nat):∀ (n i:Nat),i<n→(mkPs k n)[i * 2]? = some (.int .i64 ((k+2 * i:Nat):Int))∧(mkPs k n)[i * 2+1]? = some (.string (mtx (k+2 * i+1))):=by
 intro n
 induction n with
 | zero=>intro i hi; omega
 | succ n ih =>
  intro i hi
  have hl:=mkPs_len k n
  by_cases h:i<n
  ·obtain ⟨h1,h2⟩:=ih i h
   simp only [mkPs]
   exact ⟨by rw [List.getElem?_append_left (by omega)]; exact h1,by rw [List.getElem?_append_left (by omega)]; exact h2⟩
  ·obtain rfl:i=n:=by omega
   simp only [mkPs]
   refine ⟨?_,?_⟩
   ·rw [List.getElem?_append_right (by omega),hl,Nat.sub_self]; rfl
   ·rw [List.getElem?_append_right (by omega),hl,show i * 2+1 - i * 2=1 by omega]; rfl
theorem mkPs_next (k j:Nat)(vs:List Value)(h:j * 2+1<vs.length) :
  ((mkPs k j++vs.drop (j * 2)).set (j * 2) (.int .i64 ((k+2 * j:Nat):Int))).set (j * 2+1) (.string (mtx (k+2 * j+1)))=mkPs k (j+1)++vs.drop ((j+1) * 2):=by
 have hl:=mkPs_len k j
 rw [List.drop_eq_getElem_cons (by omega:j * 2<vs.length),List.drop_eq_getElem_cons (by omega:j * 2+1<vs.length),set_append_mid _ _ _ _ _ hl,List.set_append_right _ _ (by omega)]
 simp only [mkPs,hl,show j * 2+1 - j * 2=1 by omega,List.set_cons_succ,List.set_cons_zero,List.append_assoc,List.cons_append,List.nil_append,show (j+1) * 2=j * 2+1+1 by omega]
theorem markPartS_any (B lo hi:Nat)(a:Option Addr)(n cap k:Nat)(vs:List Value)(w:World)(h:w.ownsRow B 132 2 (.slice a n cap) n vs)(hn:n≤1048576)(h0:0<k)(hk:k≤2000000000000000)(hin:∀ g,a=some ⟨g,0,none⟩→0<n→lo≤g∧g<hi) :
  Calls Tryz.prog 78 #[.slice a n cap,.int .i64 k] w fun e w'=>e=.returned (.int .i64 (k+2 * n:Nat))∧w'.ownsRow B 132 2 (.slice a n cap) n (mkPs k n)∧Touch lo hi w w':=by
 have HL:Hid (vs.length=n * 2):=h.1
 have HIN:Hid (∀ g,a=some ⟨g,0,none⟩→0<n→lo≤g∧g<hi):=hin
 have H0:Hid (w.ownsRow B 132 2 (.slice a n cap) n vs):=h
 clear h hin
 go_enter Tryz.func78,Tryz.ntmps78
 go_wp2
 go_loopw [1,5] (fun q i wr=>∃ j:Nat,j≤n∧i=.int .i64 j∧q=.int .i64 (k+2 * j:Nat)∧Hid (wr.ownsRow B 132 2 (.slice a n cap) n (mkPs k j++vs.drop (j * 2)))∧Touch lo hi w wr) (fun _ i _=>n - (intOf i).toNat)
 case atStart=>exact ⟨0,Nat.zero_le _,rfl,rfl,by show World.ownsRow _ _ _ _ _ _ _; simpa [mkPs] using H0.out,Touch.of_below (Below.refl _ _)⟩
 case round =>
  obtain ⟨j,hj,rfl,rfl,HR,htr⟩:=hrel
  by_cases hlt:j<n
  ·obtain ⟨g,rfl,hgB,hgl⟩:=ownsRow_shape HR.out (by omega)
   obtain ⟨hg1,hg2⟩:=HIN.out g rfl (by omega)
   obtain ⟨q,hq⟩:∃ q,q=k+2 * j:=⟨_,rfl⟩
   have HN:Hid (_):=mkPs_next k j vs (by rw [HL.out]; omega)
   rw [← hq] at HN
   rw [← hq]
   have HQ:Hid (q=k+2 * j):=hq
   have hq1:q≤3000000000000000:=by omega
   have hq0:0<q:=by omega
   clear hq
   have hjn:(j:Int)<(n:Int):=by omega
   obtain ⟨ms,hms⟩:∃ ms,ms=mkPs k j++vs.drop (j * 2):=⟨_,rfl⟩
   rw [← hms] at HN HR
   have hml:ms.length=n * 2:=HR.out.1
   clear hms
   have f0:=HR.out.frozenAt (j * 2)
   obtain ⟨y0,c0⟩:∃ y,wr.cell? ⟨g,j * 2,none⟩=some y:=⟨_,(HR.out.cellAt (j * 2) (by omega)).trans (List.getElem?_eq_getElem (by omega))⟩
   have H4:=(HR.out.stored (j * 2) (.int .i64 (q:Int))).1
   obtain ⟨w4,hw4⟩:∃ w4,w4=wr.setCell ⟨g,j * 2,none⟩ (.int .i64 (q:Int)):=⟨_,rfl⟩
   have HT4:Hid (Touch lo hi w w4):=by rw [hw4]; exact htr.trans (touch_set' _ _ _ _ hg1 hg2)
   have H4':Hid (w4.ownsRow B 132 2 (.slice (some ⟨g,0,none⟩) n cap) n (ms.set (j * 2) (.int .i64 (q:Int)))):=by rw [hw4]; exact H4
   have HW:Hid (w4=wr.setCell ⟨g,j * 2,none⟩ (.int .i64 (q:Int))):=hw4
   clear H4 hw4 htr
   go_upto_region 6 with fail
   rw [← HW.out]
   clear HW c0 f0
   have HM:∀ W,Calls Tryz.prog 116 #[.int .i64 ((q:Int)+1)] W fun e w'=>e=.returned (.string (mtx (q+1)))∧Below W.heap.size W w':=fun W=>by have h:=markText_any (q+1) W (by omega) (by omega); rw [show ((q+1:Nat):Int)=(q:Int)+1 from by omega] at h; exact h
   go_wp2_with fail
   refine (HM _).mono ?_
   rintro e w5 ⟨rfl,hb5⟩
   have H5:w5.ownsRow B 132 2 (.slice (some ⟨g,0,none⟩) n cap) n (ms.set (j * 2) (.int .i64 (q:Int))):=ownsRow_below H4'.out hb5
   have f1:=H5.frozenAt (j * 2+1)
   obtain ⟨y1,c1⟩:∃ y,w5.cell? ⟨g,j * 2+1,none⟩=some y:=⟨_,(H5.cellAt (j * 2+1) (by omega)).trans (List.getElem?_eq_getElem (by rw [List.length_set]; omega))⟩
   have H6:Hid ((w5.setCell ⟨g,j * 2+1,none⟩ (.string (mtx (q+1)))).ownsRow B 132 2 (.slice (some ⟨g,0,none⟩) n cap) n (mkPs k (j+1)++vs.drop ((j+1) * 2))):=by
    show World.ownsRow _ _ _ _ _ _ _
    rw [← HN.out]
    exact (H5.stored (j * 2+1) (.string (mtx (q+1)))).1
   have HT6:Hid (Touch lo hi w (w5.setCell ⟨g,j * 2+1,none⟩ (.string (mtx (q+1))))):=HT4.out.trans ((Touch.of_below hb5).trans (touch_set' _ _ _ _ hg1 hg2))
   clear H5 hb5 HM
   go_wp2
   go_roundw
   case rel=>exact ⟨j+1,by omega,by go_num,by rw [show ((k+2 * (j+1):Nat):Int)=(q:Int)+1+1 from by have:=HQ.out; omega],H6,HT6.out⟩
   case measure=>simp [intOf]; omega
  ·have hjn:j=n:=by omega
   subst hjn
   go_wp2
   go_ret
   exact ⟨rfl,by have h1:=HR.out; rw [List.drop_eq_nil_of_le (by rw [HL.out]; omega),List.append_nil] at h1; exact h1,htr⟩
open Go.RowKit Go.Sort
theorem heldPartS_any (B:Nat)(a:Option Addr)(n cap k:Nat)(w:World)(h:w.ownsRow B 132 2 (.slice a n cap) n (mkPs k n))(hn:n≤1048576)(h0:0<k)(hk:k≤2000000000000000) :
  Calls Tryz.prog 79 #[.slice a n cap,.int .i64 k] w fun e w'=>e=.returned (.int .i64 (k+2 * n:Nat))∧Below w.heap.size w w':=by
 have H0:Hid (w.ownsRow B 132 2 (.slice a n cap) n (mkPs k n)):=h
 clear h
 go_enter Tryz.func79,Tryz.ntmps79
 go_wp2
 go_loopw [1,5] (fun q i wr=>∃ j:Nat,j≤n∧i=.int .i64 j∧q=.int .i64 (k+2 * j:Nat)∧Below w.heap.size w wr) (fun _ i _=>n - (intOf i).toNat)
 case atStart=>exact ⟨0,Nat.zero_le _,rfl,rfl,Below.refl _ _⟩
 case round =>
  obtain ⟨j,hj,rfl,rfl,hbr⟩:=hrel
  by_cases hlt:j<n
  ·obtain ⟨g,rfl,hgB,hgl⟩:=ownsRow_shape H0.out (by omega)
   obtain ⟨m0,m1⟩:=mkPs_get k n j hlt
   have c0:wr.cell? ⟨g,j * 2,none⟩=some (.int .i64 ((k+2 * j:Nat):Int)):=(hbr.cell (p:=⟨g,j * 2,none⟩) hgl).trans ((H0.out.cellAt (j * 2) (by omega)).trans m0)
   have c1:wr.cell? ⟨g,j * 2+1,none⟩=some (.string (mtx (k+2 * j+1))):=(hbr.cell (p:=⟨g,j * 2+1,none⟩) hgl).trans ((H0.out.cellAt (j * 2+1) (by omega)).trans m1)
   clear m0 m1
   obtain ⟨q,hq⟩:∃ q,q=k+2 * j:=⟨_,rfl⟩
   rw [← hq] at c0 c1
   rw [← hq]
   have HQ:Hid (q=k+2 * j):=hq
   have hq1:q≤3000000000000000:=by omega
   have hq0:0<q:=by omega
   clear hq
   have q1:=cell_regrown c1
   have hjn:(j:Int)<(n:Int):=by omega
   have ca:Hid (∀ d os,Calls Tryz.prog 116 #[.int .i64 ((q:Int)+1)] (grow (redrawn wr d) os) fun e w''=>e=.returned (.string (mtx (q+1)))∧∃ p:Regrown,w''=grow (redrawn wr p.d) p.os):=fun d os=>Calls.regrown_of (by have h:=markText_any (q+1) (grow (redrawn wr d) os) (by omega) (by omega); rw [show ((q+1:Nat):Int)=(q:Int)+1 from by omega] at h; exact h)
   obtain ⟨t,ht⟩:∃ t,t=mtx (q+1):=⟨_,rfl⟩
   rw [← ht] at ca q1
   clear ht c1
   go_wp2_with fail
   refine wp_region_quiet_below (by kernel_rfl) (by kernel_rfl) ?_
   iterate 6 (go_big_quiet_step (fail))
   go_big_quiet_step (exact ca.out _ _)
   go_big_quiet_step (fail)
   refine wpQuiet_nil ?_
   intro _ hw'
   obtain ⟨⟨dq,osq⟩,hw''⟩:=hw'
   subst hw''
   have B3:Hid (Below w.heap.size w (grow (redrawn wr dq) osq)):=hbr.trans ((below_regrown wr dq osq).mono hbr.size)
   go_wp2
   go_roundw
   case rel=>exact ⟨j+1,by omega,by go_num,by rw [show ((k+2 * (j+1):Nat):Int)=(q:Int)+1+1 from by have:=HQ.out; omega],B3.out⟩
   case measure=>simp [intOf]; omega
  ·have hjn:j=n:=by omega
   subst hjn
   go_wp2
   go_ret
   exact ⟨rfl,hbr⟩
open Go.RowKit Go.Sort
structure TouchA (a:Option Addr)(n:Nat)(w w':World):Prop where
 os:w'.os=w.os
 tape:w'.tape=w.tape
 output:w'.output=w.output
 size:w.heap.size≤w'.heap.size
 block:∀ i,i<w.heap.size→(0<n→a≠some ⟨i,0,none⟩)→w'.heap[i]? = w.heap[i]?
theorem TouchA.refl (a:Option Addr)(n:Nat)(w:World):TouchA a n w w:=⟨rfl,rfl,rfl,Nat.le_refl _,fun _ _ _=>rfl⟩
structure TouchS (S:Nat→Prop)(w w':World):Prop where
 os:w'.os=w.os
 tape:w'.tape=w.tape
 output:w'.output=w.output
 size:w.heap.size≤w'.heap.size
 block:∀ i,i<w.heap.size→¬ S i→w'.heap[i]? = w.heap[i]?
theorem TouchS.of_below {S:Nat→Prop}{w w':World}(h:Below w.heap.size w w'):TouchS S w w':=⟨h.os,h.tape,h.output,h.size,fun k hk _=>h.block k hk⟩
theorem TouchS.trans {S:Nat→Prop}{a b c:World}(h:TouchS S a b)(k:TouchS S b c):TouchS S a c :=
 ⟨k.os.trans h.os,k.tape.trans h.tape,k.output.trans h.output,Nat.le_trans h.size k.size,fun i hi ho=>(k.block i (Nat.lt_of_lt_of_le hi h.size) ho).trans (h.block i hi ho)⟩
theorem TouchS.mono {S T:Nat→Prop}{w w':World}(h:TouchS S w w')(hs:∀ i,S i→T i):TouchS T w w':=⟨h.os,h.tape,h.output,h.size,fun i hi ho=>h.block i hi (fun q=>ho (hs i q))⟩
theorem TouchS.set {S:Nat→Prop}(w:World)(g j:Nat)(u:Value)(hg:S g):TouchS S w (w.setCell ⟨g,j,none⟩ u):=by
 have ht:=touch_set' (p:=g) (q:=g+1) w g j u (Nat.le_refl _) (Nat.lt_succ_self _)
 exact ⟨ht.os,ht.tape,ht.output,ht.size,fun i hi ho=>ht.block i hi (by
  have:g≠i:=fun e=>ho (e ▸ hg)
  omega)⟩
theorem TouchA.touchS {S:Nat→Prop}{a:Option Addr}{n:Nat}{w w':World}(h:TouchA a n w w')(hin:∀ g,a=some ⟨g,0,none⟩→0<n→S g):TouchS S w w' :=
 ⟨h.os,h.tape,h.output,h.size,fun i hi ho=>h.block i hi (fun hn e=>ho (hin i e hn))⟩
theorem TouchA.of_below {a:Option Addr}{n:Nat}{w w':World}(h:Below w.heap.size w w'):TouchA a n w w':=⟨h.os,h.tape,h.output,h.size,fun k hk _=>h.block k hk⟩
theorem TouchA.trans {x:Option Addr}{n:Nat}{a b c:World}(h:TouchA x n a b)(k:TouchA x n b c):TouchA x n a c :=
 ⟨k.os.trans h.os,k.tape.trans h.tape,k.output.trans h.output,Nat.le_trans h.size k.size,fun i hi ho=>(k.block i (Nat.lt_of_lt_of_le hi h.size) ho).trans (h.block i hi ho)⟩
theorem ownsRow_keepS {w w':World}{S:Nat→Prop}{B t s m c:Nat}{b:Option Addr}{vs:List Value}(h:w.ownsRow B t s (.slice b m c) m vs)(k:TouchS S w w')(hne:∀ g,b=some ⟨g,0,none⟩→B≤g→¬ S g):w'.ownsRow B t s (.slice b m c) m vs:=by
 refine ⟨h.1,?_⟩
 rcases h.2 with q | ⟨g,c',cur,h1,hb,hg,r⟩
 ·exact .inl q
 ·refine .inr ⟨g,c',cur,h1,hb,?_,r⟩
  simp only [Value.slice.injEq] at h1
  rw [k.block g (Array.getElem?_eq_some_iff.1 hg).1 (hne g h1.1 hb)]
  exact hg
theorem ownsRow_keepA {w w':World}{B t s n m c:Nat}{a b:Option Addr}{vs:List Value}(h:w.ownsRow B t s (.slice b m c) m vs)(k:TouchA a n w w')(hne:0<n→a≠b):w'.ownsRow B t s (.slice b m c) m vs:=by
 refine ⟨h.1,?_⟩
 rcases h.2 with q | ⟨g,c',cur,h1,hb,hg,r⟩
 ·exact .inl q
 ·refine .inr ⟨g,c',cur,h1,hb,?_,r⟩
  simp only [Value.slice.injEq] at h1
  rw [k.block g (Array.getElem?_eq_some_iff.1 hg).1 (fun hn e=>hne hn (e.trans h1.1.symm))]
  exact hg
theorem ownsRow_ne {w:World}{B B' t t' s s' n n' c c':Nat}{a a':Option Addr}{vs vs':List Value}(h:w.ownsRow B t s (.slice a n c) n vs)(h':w.ownsRow B' t' s' (.slice a' n' c') n' vs')(ht:t≠t')(hn:0<n):a≠a':=by
 rintro rfl
 rcases h.2 with ⟨_,q⟩ | ⟨g,c1,cur,h1,hb,hg,r⟩
 ·omega
 ·rcases h'.2 with ⟨q,_⟩ | ⟨g',c1',cur',h1',hb',hg',r'⟩
  ·simp only [Value.slice.injEq] at h1 q
   rw [h1.1] at q
   simp at q
  ·simp only [Value.slice.injEq] at h1 h1'
   have e:=h1.1.symm.trans h1'.1
   simp only [Option.some.injEq,Addr.mk.injEq] at e
   rw [← e.1,hg] at hg'
   simp only [Option.some.injEq,Obj.cells.injEq] at hg'
   exact ht hg'.2.1
theorem markPartS_q (B:Nat)(a:Option Addr)(n cap k:Nat)(vs:List Value)(w:World)(h:0<n→w.ownsRow B 132 2 (.slice a n cap) n vs)(hn:n≤1048576)(h0:0<k)(hk:k≤2000000000000000) :
  Calls Tryz.prog 78 #[.slice a n cap,.int .i64 k] w fun e w'=>e=.returned (.int .i64 (k+2 * n:Nat))∧(0<n→w'.ownsRow B 132 2 (.slice a n cap) n (mkPs k n))∧TouchA a n w w':=by
 by_cases hz:n=0
 ·subst hz
  go_enter Tryz.func78,Tryz.ntmps78
  go_wp2
  go_loopw [1,5] (fun q i wr=>i=.int .i64 0∧q=.int .i64 k∧wr=w) (fun _ _ _=>0)
  case atStart=>exact ⟨rfl,rfl,rfl⟩
  case round =>
   obtain ⟨rfl,rfl,rfl⟩:=hrel
   go_wp2
   go_ret
   exact ⟨rfl,fun h=>absurd h (Nat.lt_irrefl _),TouchA.refl _ _ _⟩
 ·have hp:0<n:=by omega
  obtain ⟨g,rfl,hgB,hgl⟩:=ownsRow_shape (h hp) hp
  refine (markPartS_any B g (g+1) _ n cap k vs w (h hp) hn h0 hk (fun g' e _=>by simp only [Option.some.injEq,Addr.mk.injEq] at e; omega)).mono ?_
  rintro e w' ⟨rfl,ho,ht⟩
  exact ⟨rfl,fun _=>ho,⟨ht.os,ht.tape,ht.output,ht.size,fun i hi hne=>ht.block i hi (by
   have h1:g≠i:=fun e=>hne hp (by rw [e])
   omega)⟩⟩
theorem heldPartS_q (B:Nat)(a:Option Addr)(n cap k:Nat)(w:World)(h:0<n→w.ownsRow B 132 2 (.slice a n cap) n (mkPs k n))(hn:n≤1048576)(h0:0<k)(hk:k≤2000000000000000) :
  Calls Tryz.prog 79 #[.slice a n cap,.int .i64 k] w fun e w'=>e=.returned (.int .i64 (k+2 * n:Nat))∧Below w.heap.size w w':=by
 by_cases hz:n=0
 ·subst hz
  go_enter Tryz.func79,Tryz.ntmps79
  go_wp2
  go_loopw [1,5] (fun q i wr=>i=.int .i64 0∧q=.int .i64 k∧wr=w) (fun _ _ _=>0)
  case atStart=>exact ⟨rfl,rfl,rfl⟩
  case round =>
   obtain ⟨rfl,rfl,rfl⟩:=hrel
   go_wp2
   go_ret
   exact ⟨rfl,Below.refl _ _⟩
 ·exact heldPartS_any B a n cap k w (h (by omega)) hn h0 hk
open Go.RowKit
structure RowI (S:Nat→Prop)(w:World)(a:Option Addr)(n:Nat)(bs:List Int):Prop where
 row:Row w a n bs
 lt:∀ x,a=some x→0<n→S x.block
theorem RowI.touch {S P:Nat→Prop}{w w':World}{a:Option Addr}{n:Nat}{bs:List Int}(h:RowI S w a n bs)(hd:∀ k,S k→¬ P k)(ht:TouchX P w w'):RowI S w' a n bs:=by
 refine ⟨⟨h.row.len,fun k hk=>?_,h.row.byte⟩,h.lt⟩
 obtain ⟨b,off,ha,hlt,hc⟩:=h.row.get k hk
 have hb:=ht.block b hlt (hd b (h.lt _ ha (by omega)))
 exact ⟨b,off,ha,Nat.lt_of_lt_of_le hlt ht.size,(World.cell?_of_block (a:=⟨b,off+k,none⟩) hb).trans hc⟩
theorem RowI.mono {S T:Nat→Prop}{w:World}{a:Option Addr}{n:Nat}{bs:List Int}(h:RowI S w a n bs)(hs:∀ k,S k→T k):RowI T w a n bs:=⟨h.row,fun x hx h0=>hs _ (h.lt x hx h0)⟩
theorem Row.toI {w:World}{a:Option Addr}{n:Nat}{bs:List Int}(h:Row w a n bs):RowI (fun b=>b<w.heap.size) w a n bs:=⟨h,fun x hx h0=>by
 obtain ⟨b,off,ha,hlt,_⟩:=h.get 0 h0
 rw [hx] at ha
 have:x=⟨b,off,none⟩:=by injection ha
 rw [this]; exact hlt⟩
theorem Own.toI {B:Nat}{w:World}{a:Option Addr}{n c:Nat}{bs:List Int}(h:Own B w a n c bs):RowI (fun b=>B≤b∧b<w.heap.size) w a n bs:=⟨h.toRow,fun x hx h0=>by
 have:=h.row.lt x.block (by rw [hx]; rfl)
 exact ⟨this.1,this.2⟩⟩
def KidsI:Nat→(Nat→Prop)→World→Option Addr→Nat→List It→Prop
 | 0,_,_,_,_,_=>False
 | d+1,S,w,a,n,xs=>xs.length=n∧n≤9223372036854775807∧∀ k,k<n→∃ b off,a=some ⟨b,off,none⟩∧b<w.heap.size∧S b∧∃ ab nb cb ak nk ck,
   w.cell? ⟨b,off+k * 5,none⟩=some (.int .i64 (xs.getD k default).cls)∧w.cell? ⟨b,off+k * 5+1,none⟩=some (.int .i64 (xs.getD k default).tag)∧w.cell? ⟨b,off+k * 5+2,none⟩=some (.bool (xs.getD k default).cons)
   ∧ w.cell? ⟨b,off+k * 5+3,none⟩=some (.slice ab nb cb)∧w.cell? ⟨b,off+k * 5+4,none⟩=some (.slice ak nk ck)
   ∧ RowI S w ab nb (xs.getD k default).body∧(ab=none→cb=0)∧nb≤9223372036854775807∧KidsI d S w ak nk (xs.getD k default).kids
theorem KidsI.kids {d:Nat}:∀ {S:Nat→Prop} {w:World} {a:Option Addr} {n:Nat} {xs:List It},KidsI d S w a n xs→Kids d w a n xs:=by
 induction d with
 | zero=>intro _ _ _ _ _ h; exact h.elim
 | succ d ih =>
  intro S w a n xs h
  refine ⟨h.1,h.2.1,fun k hk=>?_⟩
  obtain ⟨b,off,ha,hlt,_,ab,nb,cb,ak,nk,ck,c0,c1,c2,c3,c4,hr,hn,hm,hk⟩:=h.2.2 k hk
  exact ⟨b,off,ha,hlt,ab,nb,cb,ak,nk,ck,c0,c1,c2,c3,c4,hr.row,hn,hm,ih hk⟩
theorem KidsI.mono {d:Nat}:∀ {S T:Nat→Prop} {w:World} {a:Option Addr} {n:Nat} {xs:List It},KidsI d S w a n xs→(∀ k,S k→T k)→KidsI d T w a n xs:=by
 induction d with
 | zero=>intro _ _ _ _ _ _ h; exact h.elim
 | succ d ih =>
  intro S T w a n xs h hs
  refine ⟨h.1,h.2.1,fun k hk=>?_⟩
  obtain ⟨b,off,ha,hlt,hS,ab,nb,cb,ak,nk,ck,c0,c1,c2,c3,c4,hr,hn,hm,hk⟩:=h.2.2 k hk
  exact ⟨b,off,ha,hlt,hs b hS,ab,nb,cb,ak,nk,ck,c0,c1,c2,c3,c4,hr.mono hs,hn,hm,ih hk hs⟩
theorem KidsI.more {d:Nat}:∀ {S:Nat→Prop} {w:World} {a:Option Addr} {n:Nat} {xs:List It},KidsI d S w a n xs→KidsI (d+1) S w a n xs:=by
 induction d with
 | zero=>intro _ _ _ _ _ h; exact h.elim
 | succ d ih =>
  intro S w a n xs h
  refine ⟨h.1,h.2.1,fun k hk=>?_⟩
  obtain ⟨b,off,ha,hlt,hS,ab,nb,cb,ak,nk,ck,c0,c1,c2,c3,c4,hr,hn,hm,hk⟩:=h.2.2 k hk
  exact ⟨b,off,ha,hlt,hS,ab,nb,cb,ak,nk,ck,c0,c1,c2,c3,c4,hr,hn,hm,ih hk⟩
theorem KidsI.touch {d:Nat}:∀ {S P:Nat→Prop} {w w':World} {a:Option Addr} {n:Nat} {xs:List It},KidsI d S w a n xs→(∀ k,S k→¬ P k)→TouchX P w w'→KidsI d S w' a n xs:=by
 induction d with
 | zero=>intro _ _ _ _ _ _ _ h; exact h.elim
 | succ d ih =>
  intro S P w w' a n xs h hd ht
  refine ⟨h.1,h.2.1,fun k hk=>?_⟩
  obtain ⟨b,off,ha,hlt,hS,ab,nb,cb,ak,nk,ck,c0,c1,c2,c3,c4,hr,hn,hm,hk⟩:=h.2.2 k hk
  have cc:∀ j,w'.cell? ⟨b,j,none⟩=w.cell? ⟨b,j,none⟩:=fun j=>World.cell?_of_block (a:=⟨b,j,none⟩) (ht.block b hlt (hd b hS))
  exact ⟨b,off,ha,Nat.lt_of_lt_of_le hlt ht.size,hS,ab,nb,cb,ak,nk,ck,(cc _).trans c0,(cc _).trans c1,(cc _).trans c2,(cc _).trans c3,(cc _).trans c4,hr.touch hd ht,hn,hm,ih hk hd ht⟩
theorem KidsI.none (d:Nat)(S:Nat→Prop)(w:World)(a:Option Addr):KidsI (d+1) S w a 0 []:=⟨rfl,by decide,fun k hk=>absurd hk (Nat.not_lt_zero _)⟩
structure ItV (d:Nat)(S:Nat→Prop)(w:World)(x:It)(ab:Option Addr)(nb cb:Nat)(ak:Option Addr)(nk ck:Nat):Prop where
 row:RowI S w ab nb x.body
 nil:ab=none→cb=0
 max:nb≤9223372036854775807
 kids:KidsI d S w ak nk x.kids
theorem ItV.touch {d:Nat}{S P:Nat→Prop}{w w':World}{x:It}{ab:Option Addr}{nb cb:Nat}{ak:Option Addr}{nk ck:Nat}(h:ItV d S w x ab nb cb ak nk ck)(hd:∀ k,S k→¬ P k)(ht:TouchX P w w'):ItV d S w' x ab nb cb ak nk ck:=⟨h.row.touch hd ht,h.nil,h.max,h.kids.touch hd ht⟩
theorem ItV.kept {d:Nat}{S:Nat→Prop}{w w':World}{x:It}{ab:Option Addr}{nb cb:Nat}{ak:Option Addr}{nk ck:Nat}(h:ItV d S w x ab nb cb ak nk ck)(hb:Below w.heap.size w w'):ItV d S w' x ab nb cb ak nk ck:=h.touch (P:=fun _=>False) (fun _ _ h=>h) (TouchX.of_below hb)
theorem ItV.mono {d:Nat}{S T:Nat→Prop}{w:World}{x:It}{ab:Option Addr}{nb cb:Nat}{ak:Option Addr}{nk ck:Nat}(h:ItV d S w x ab nb cb ak nk ck)(hs:∀ k,S k→T k):ItV d T w x ab nb cb ak nk ck:=⟨h.row.mono hs,h.nil,h.max,h.kids.mono hs⟩
theorem ItV.more {d:Nat}{S:Nat→Prop}{w:World}{x:It}{ab:Option Addr}{nb cb:Nat}{ak:Option Addr}{nk ck:Nat}(h:ItV d S w x ab nb cb ak nk ck):ItV (d+1) S w x ab nb cb ak nk ck:=⟨h.row,h.nil,h.max,h.kids.more⟩
def itc (x:It)(ab:Option Addr)(nb cb:Nat)(ak:Option Addr)(nk ck:Nat):List Value:=[.int .i64 x.cls,.int .i64 x.tag,.bool x.cons,.slice ab nb cb,.slice ak nk ck]
structure OwnIts (d:Nat)(S:Nat→Prop)(w:World)(a:Option Addr)(n c:Nat)(xs:List It):Prop where
 len:xs.length=n
 max:n≤9223372036854775807
 own:∃ vs,w.ownsRow 0 94 5 (.slice a n c) n vs∧∀ k,k<n→∃ ab nb cb ak nk ck,(∀ j,j<5→vs[k * 5+j]? = (itc (xs.getD k default) ab nb cb ak nk ck)[j]?)∧ItV d S w (xs.getD k default) ab nb cb ak nk ck
 ap:∀ b,(Value.slice a n c).ownBlock=some b→¬ S b
theorem OwnIts.nil (d:Nat)(w:World):OwnIts d (fun _=>False) w none 0 0 []:=⟨rfl,by decide,⟨[],⟨rfl,.inl ⟨rfl,rfl⟩⟩,fun k hk=>absurd hk (Nat.not_lt_zero _)⟩,fun b hb=>by cases hb⟩
theorem OwnIts.touch {d:Nat}{S P:Nat→Prop}{w w':World}{a:Option Addr}{n c:Nat}{xs:List It}(h:OwnIts d S w a n c xs)(hd:∀ k,S k→¬ P k)(hr:∀ b,(Value.slice a n c).ownBlock=some b→¬ P b)(ht:TouchX P w w'):OwnIts d S w' a n c xs:=by
 obtain ⟨h0,h1,⟨vs,hv,h2⟩,h3⟩:=h
 refine ⟨h0,h1,⟨vs,ownsRow_moveX (S:=fun b=>(Value.slice a n c).ownBlock=some b) hv (fun _ h=>h) hr ht,fun k hk=>?_⟩,h3⟩
 obtain ⟨ab,nb,cb,ak,nk,ck,e,hi⟩:=h2 k hk
 exact ⟨ab,nb,cb,ak,nk,ck,e,hi.touch hd ht⟩
theorem OwnIts.kept {d:Nat}{S:Nat→Prop}{w w':World}{a:Option Addr}{n c:Nat}{xs:List It}(h:OwnIts d S w a n c xs)(hb:Below w.heap.size w w'):OwnIts d S w' a n c xs:=h.touch (P:=fun _=>False) (fun _ _ h=>h) (fun _ _ h=>h) (TouchX.of_below hb)
theorem OwnIts.mono {d:Nat}{S T:Nat→Prop}{w:World}{a:Option Addr}{n c:Nat}{xs:List It}(h:OwnIts d S w a n c xs)(hs:∀ k,S k→T k)(hr:∀ b,(Value.slice a n c).ownBlock=some b→¬ T b):OwnIts d T w a n c xs:=by
 obtain ⟨h0,h1,⟨vs,hv,h2⟩,h3⟩:=h
 refine ⟨h0,h1,⟨vs,hv,fun k hk=>?_⟩,hr⟩
 obtain ⟨ab,nb,cb,ak,nk,ck,e,hi⟩:=h2 k hk
 exact ⟨ab,nb,cb,ak,nk,ck,e,hi.mono hs⟩
theorem OwnIts.kids {d:Nat}{S T:Nat→Prop}{w:World}{a:Option Addr}{n c:Nat}{xs:List It}(h:OwnIts d S w a n c xs)(hs:∀ k,S k→T k)(hr:∀ b,(Value.slice a n c).ownBlock=some b→T b):KidsI (d+1) T w a n xs:=by
 obtain ⟨h0,h1,⟨vs,hv,h2⟩,h3⟩:=h
 refine ⟨h0,h1,fun k hk=>?_⟩
 obtain ⟨ab,nb,cb,ak,nk,ck,e,hi⟩:=h2 k hk
 rcases hv.2 with ⟨_,hn⟩ | ⟨g,cap,cur,hva,_,hh,_⟩
 ·omega
 ·simp only [Value.slice.injEq] at hva
  obtain ⟨rfl,_,rfl⟩:=hva
  have cc:∀ j,j<5→w.cell? ⟨g,0+k * 5+j,none⟩=(itc (xs.getD k default) ab nb cb ak nk ck)[j]?:=fun j hj=>by
   rw [Nat.zero_add,hv.cellAt _ (by omega)]
   exact e j hj
  exact ⟨g,0,rfl,(Array.getElem?_eq_some_iff.1 hh).1,hr g rfl,ab,nb,cb,ak,nk,ck,cc 0 (by omega),cc 1 (by omega),cc 2 (by omega),cc 3 (by omega),cc 4 (by omega),hi.row.mono hs,hi.nil,hi.max,hi.kids.mono hs⟩
theorem getI_last (xs:List It)(y:It):(xs++[y]).getD xs.length default=y:=by simp
theorem getI_more (xs:List It)(y:It)(k:Nat)(h:k<xs.length):(xs++[y]).getD k default=xs.getD k default:=by simp [List.getElem?_append_left h,h]
theorem OwnIts.appended {d:Nat}{S T:Nat→Prop}{w w1:World}{a:Option Addr}{n c:Nat}{xs:List It}{y:It}{ab:Option Addr}{nb cb:Nat}{ak:Option Addr}{nk ck:Nat}{g' c':Nat}
  (h:OwnIts d S w a n c xs) (hy:ItV d T w y ab nb cb ak nk ck) (hs:∀ b,S b→T b) (hr:∀ b,(Value.slice a n c).ownBlock=some b→¬ T b) (hlt:∀ b,T b→b<w.heap.size) (hn:n+1≤9223372036854775807)
  {vs:List Value} (hv0:w.ownsRow 0 94 5 (.slice a n c) n vs) (hv:w1.ownsRow 0 94 5 (.slice (some ⟨g',0,none⟩) (n+1) c') (n+1) (vs++itc y ab nb cb ak nk ck)) (hg:w.grownBy w1 (Value.slice a n c).ownBlock) (hl:(Value.slice a n c).ownBlock=some g'∨g'=w.heap.size):OwnIts d T w1 (some ⟨g',0,none⟩) (n+1) c' (xs++[y]):=by
 obtain ⟨h0,h1,⟨us,hu,h2⟩,h3⟩:=h
 have euv:us=vs:=by
  rcases hu.2 with ⟨h4,h5⟩ | ⟨g1,cap1,cur1,e1,_,hh1,_,_,_,ht1⟩
  ·have q1:=hu.1
   have q2:=hv0.1
   rw [h5] at q1 q2
   exact (List.eq_nil_of_length_eq_zero (by omega)).trans (List.eq_nil_of_length_eq_zero (by omega)).symm
  ·rcases hv0.2 with ⟨h4,h5⟩ | ⟨g2,cap2,cur2,e2,_,hh2,_,_,_,ht2⟩
   ·rw [h4] at e1; cases e1
   ·rw [e1] at e2
    simp only [Value.slice.injEq,Option.some.injEq,Addr.mk.injEq,and_true] at e2
    rw [e2.1] at hh1
    rw [hh1] at hh2
    injection hh2 with hh2
    injection hh2 with hh2
    rw [← ht1,← ht2,hh2]
 subst euv
 have ht:TouchX (fun b=>(Value.slice a n c).ownBlock=some b) w w1:=touchX_g hg (fun k hk=>hk)
 have hd:∀ b,T b→¬ (Value.slice a n c).ownBlock=some b:=fun b hb e=>hr b e hb
 have hul:us.length=n * 5:=hu.1
 refine ⟨by simp [h0],hn,⟨_,hv,fun k hk=>?_⟩,fun b hb hT=>?_⟩
 ·by_cases e:k=n
  ·subst e
   have e2:(xs++[y]).getD k default=y:=by rw [← h0]; exact getI_last xs y
   rw [e2]
   refine ⟨ab,nb,cb,ak,nk,ck,fun j hj=>?_,hy.touch hd ht⟩
   rw [List.getElem?_append_right (by omega)]
   congr 1
   omega
  ·have e2:(xs++[y]).getD k default=xs.getD k default:=getI_more xs y k (by omega)
   rw [e2]
   obtain ⟨ab,nb,cb,ak,nk,ck,e3,hi⟩:=h2 k (by omega)
   refine ⟨ab,nb,cb,ak,nk,ck,fun j hj=>?_,(hi.mono hs).touch hd ht⟩
   rw [List.getElem?_append_left (by omega)]
   exact e3 j hj
 ·have:g'=b:=by injection hb
  rw [← this] at hT
  rcases hl with hl | hl
  ·exact hr g' hl hT
  ·have:=hlt g' hT
   omega
open Go.RowKit
def strI (ks:List It):It:=.mk 0 16 true [] ks
def lstI (ks:List It):It:=.mk 0 17 true [] ks
end Go.Proofs.YtnmplldhdfingaaGreatDoor
