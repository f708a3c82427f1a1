import Derived.Test.YtnmplldhdfingaaGreatDoorFG19
set_option maxRecDepth 10000
set_option maxHeartbeats 8000000
set_option linter.unusedVariables false
namespace Go.Proofs.YtnmplldhdfingaaGreatDoor
open Go.RowKit
def noW:List Int:=[110,111,110,99,101]
theorem noW_byte:∀ k,0≤noW.getD k 0∧noW.getD k 0≤255:=bytes_of_all (by decide)
def nonN (x:Int)(ms:List Int):Int:=1+hashL (partsL [noW,putI x,ms]) % 500000002
theorem non_total (x:Int)(ms:List Int)(hr:x≤9223372036854775807)(hn:ms.length≤1048576):total [noW,putI x,ms]≤2097152:=by
 have h1:=putI_len x hr
 simp [total,noW]
 omega
theorem nonN_bd (x:Int)(ms:List Int):1≤nonN x ms∧nonN x ms≤500000002:=by unfold nonN; omega
theorem chalN_bd (r y:Int)(ms:List Int):0≤chalN r y ms∧chalN r y ms≤500000002:=by unfold chalN; omega
theorem keyOf_bd (x:Int):0≤keyOf x∧keyOf x≤1000000006:=by
 unfold keyOf
 split
 ·have:=gp_bd 4 x; omega
 ·decide
def sigE (x:Int)(ms:List Int):Int:=chalN (gp 4 (nonN x ms)) (keyOf x) ms
def signR (x:Int)(ms:List Int):(Int × Int) × Bool:=if secP x then ((sigE x ms,(nonN x ms+sigE x ms * x) % 500000003),true) else ((0,0),false)
theorem implSign_any (x:Int)(a:Option Addr)(n c:Nat)(ms:List Int)(w:World)(h:Row w a n ms)(hn:n≤1048576)(hc:a=none→c=0) :
  Calls Tryz.prog 178 #[.int .i64 x,.slice a n c] w fun e w'=>e=.returned (.tuple #[sigv (signR x ms).1,.bool (signR x ms).2])∧Below w.heap.size w w':=by
 have H0:Hid (Row w a n ms):=h
 by_cases hs:secP x
 ·have HR:Hid (signR x ms=((sigE x ms,(nonN x ms+sigE x ms * x) % 500000003),true)):=by show _=_; unfold signR; rw [if_pos hs]
  have hx1:=hs.2
  have hx0:=hs.1
  have HT:Hid (total [noW,putI x,ms]≤2097152):=non_total x ms (by omega) (by rw [h.len]; exact hn)
  have hbx:=boxS_new 79 w 0 0
  have hb0:Below w.heap.size w (w.alloc (.cells #[.int .i64 0,.int .i64 0] 79)):=(Below.refl _ _).alloc (Nat.le_refl _) _
  clear h
  go_enter Tryz.func178,Tryz.ntmps178
  go_wp2_with fail
  refine (isSecret_any x _).mono ?_
  rintro r w1 ⟨rfl,rfl⟩
  rw [decide_eq_true hs]
  obtain ⟨w1,hw1⟩:∃ w1,w1=w.alloc (.cells #[.int .i64 0,.int .i64 0] 79):=⟨_,rfl⟩
  rw [← hw1] at hbx hb0 ⊢
  clear hw1
  have hcv:=Lib.run_convert_bytes_const (P:=Tryz.prog) w1 26 5 #[.int .u8 110,.int .u8 111,.int .u8 110,.int .u8 99,.int .u8 101] 5 5 Tryz.underlying26 Tryz.underlying5
  have hrw:Row (w1.alloc (.cells #[.int .u8 110,.int .u8 111,.int .u8 110,.int .u8 99,.int .u8 101] 5 (5,6))) (some ⟨w1.heap.size,0,none⟩) 5 noW:=row_word w1 noW (5,6) noW_byte
  have hb2:Below w1.heap.size w1 (w1.alloc (.cells #[.int .u8 110,.int .u8 111,.int .u8 110,.int .u8 99,.int .u8 101] 5 (5,6))):=(Below.refl _ _).alloc (Nat.le_refl _) _
  go_wp2_with fail
  clear hcv
  obtain ⟨w2,hw2⟩:∃ w2,w2=w1.alloc (.cells #[.int .u8 110,.int .u8 111,.int .u8 110,.int .u8 99,.int .u8 101] 5 (5,6)):=⟨_,rfl⟩
  rw [← hw2] at hrw hb2 ⊢
  clear hw2
  refine (implPutNum_any x _ (by omega)).mono ?_
  rintro e w3 ⟨a1,c1,rfl,ho1,hb3⟩
  obtain ⟨n1,hn1⟩:∃ n1,n1=(putI x).length:=⟨_,rfl⟩
  rw [← hn1] at ho1 ⊢
  clear hn1
  have hs2:=hb2.size
  have D3:Below w1.heap.size w1 w3:=hb2.trans (hb3.mono hs2)
  have B3:Below w.heap.size w w3:=hb0.trans (D3.mono hb0.size)
  have HRS:Hid (Rows2 (w3.alloc (.cells #[.slice (some ⟨w1.heap.size,0,none⟩) 5 5,.slice a1 n1 c1,.slice a n c] 26)) (some ⟨w3.heap.size,0,none⟩) 3 [noW,putI x,ms]):=by
   refine rows2_lit w3 [(some ⟨w1.heap.size,0,none⟩,5,5,noW),(a1,n1,c1,putI x),(a,n,c,ms)] 26 ?_
   intro p hp
   simp only [List.mem_cons,List.not_mem_nil,or_false] at hp
   rcases hp with rfl | rfl | rfl
   ·exact ⟨hrw.kept hb3,fun h=>by cases h⟩
   ·exact ⟨ho1.toRow,ho1.nil⟩
   ·exact ⟨H0.out.kept B3,hc⟩
  have D4:Below w1.heap.size w1 (w3.alloc (.cells #[.slice (some ⟨w1.heap.size,0,none⟩) 5 5,.slice a1 n1 c1,.slice a n c] 26)):=D3.alloc D3.size _
  clear hrw ho1 hb3 hb2
  go_wp2_with fail
  refine (implHashParts_any _ 3 3 [noW,putI x,ms] _ HRS.out (by decide) HT.out).mono ?_
  rintro e w4 ⟨rfl,hb4⟩
  have D5:Below w1.heap.size w1 w4:=D4.trans (hb4.mono D4.size)
  have B5:Below w.heap.size w w4:=hb0.trans (D5.mono hb0.size)
  clear hb4 D4 HRS D3 B3
  have HK:Hid (1+hashL (partsL [noW,putI x,ms]) % 500000002=nonN x ms):=rfl
  obtain ⟨hh,hhe⟩:∃ hh,hh=hashL (partsL [noW,putI x,ms]):=⟨_,rfl⟩
  have hhb:=hashL_bd (partsL [noW,putI x,ms])
  rw [← hhe] at HK hhb ⊢
  obtain ⟨hh0,hh1⟩:=hhb
  clear hhe
  obtain ⟨hk0,hk1⟩:=nonN_bd x ms
  go_wp2_with fail
  rw [HK.out]
  obtain ⟨k,hk⟩:∃ k,k=nonN x ms:=⟨_,rfl⟩
  have HK2:Hid (k=nonN x ms):=hk
  rw [← hk] at hk0 hk1 HK ⊢
  clear hk
  refine (power_any 4 k _ (by decide) (by decide) (by omega) (by omega)).mono ?_
  rintro e w5 ⟨rfl,rfl⟩
  go_wp2_with fail
  refine (implKeyOf_any x _).mono ?_
  rintro e w5 ⟨rfl,rfl⟩
  have hg:=gp_bd 4 k
  have hky:=keyOf_bd x
  go_wp2_with fail
  refine (implChallenge_any (gp 4 k) (keyOf x) a n c ms _ (H0.out.kept B5) hn hc (by omega) (by omega)).mono ?_
  rintro e w6 ⟨rfl,hb6⟩
  have hch:=chalN_bd (gp 4 k) (keyOf x) ms
  have HE:Hid (chalN (gp 4 k) (keyOf x) ms=sigE x ms):=by show _=_; rw [HK2.out]; rfl
  obtain ⟨ee,hee⟩:∃ ee,ee=chalN (gp 4 k) (keyOf x) ms:=⟨_,rfl⟩
  rw [← hee] at HE hch ⊢
  clear hee hg hky
  go_wp2_with fail
  refine (answerTo_any k ee x _ ⟨by omega,by omega⟩ hch ⟨by omega,by omega⟩).mono ?_
  rintro e w7 ⟨rfl,rfl⟩
  have D6:Below w1.heap.size w1 w7:=D5.trans (hb6.mono D5.size)
  have hbx6:=(hbx.kept D6)
  have hc0:=hbx6.c0
  have hc1:=hbx6.c1
  have hf0:=hbx6.fr 0
  have hf1:=hbx6.fr 1
  have HBX:Hid (_):=hbx6
  have B6:Below w.heap.size w w7:=hb0.trans (D6.mono hb0.size)
  clear hbx6 hbx
  go_wp2
  try simp only [Exit.inBlock,Exit.then]
  refine bodyPost_ret (results_sig2 rfl _ w.heap.size rfl _ rfl _ _ (HBX.out.set ee ((k+ee * x) % 500000003))) rfl ⟨?_,below_set2 B6 _ (Nat.le_refl _) _ _⟩
  rw [HR.out,← HE.out,← HK2.out]
  rfl
 ·have HR:Hid (signR x ms=((0,0),false)):=by show _=_; unfold signR; rw [if_neg hs]
  have hbx:=boxS_new 79 w 0 0
  have hb0:Below w.heap.size w (w.alloc (.cells #[.int .i64 0,.int .i64 0] 79)):=(Below.refl _ _).alloc (Nat.le_refl _) _
  clear h
  go_enter Tryz.func178,Tryz.ntmps178
  go_wp2_with fail
  refine (isSecret_any x _).mono ?_
  rintro r w1 ⟨rfl,rfl⟩
  rw [decide_eq_false hs]
  have HBX:Hid (_):=hbx
  clear hbx
  go_wp2
  try simp only [Exit.inBlock,Exit.then]
  refine bodyPost_ret (results_sig2 rfl _ w.heap.size rfl _ rfl _ _ HBX.out) rfl ⟨?_,hb0⟩
  rw [HR.out]
  rfl
theorem specSign_any (x:Int)(a:Option Addr)(n c:Nat)(ms:List Int)(w:World)(h:Row w a n ms)(hn:n≤1048576)(hc:a=none→c=0) :
  Calls Tryz.prog 45 #[.int .i64 x,.slice a n c] w fun e w'=>e=.returned (.tuple #[sigv (signR x ms).1,.bool (signR x ms).2])∧Below w.heap.size w w':=by
 have H0:Hid (Row w a n ms):=h
 by_cases hs:secP x
 ·have HR:Hid (signR x ms=((sigE x ms,(nonN x ms+sigE x ms * x) % 500000003),true)):=by show _=_; unfold signR; rw [if_pos hs]
  have hx1:=hs.2
  have hx0:=hs.1
  have HT:Hid (total [noW,putI x,ms]≤2097152):=non_total x ms (by omega) (by rw [h.len]; exact hn)
  have hbx:=boxS_new 79 w 0 0
  have hb0:Below w.heap.size w (w.alloc (.cells #[.int .i64 0,.int .i64 0] 79)):=(Below.refl _ _).alloc (Nat.le_refl _) _
  clear h
  go_enter Tryz.func45,Tryz.ntmps45
  go_wp2_with fail
  refine (l7Secret_any x _).mono ?_
  rintro r w1 ⟨rfl,rfl⟩
  rw [decide_eq_true hs]
  obtain ⟨w1,hw1⟩:∃ w1,w1=w.alloc (.cells #[.int .i64 0,.int .i64 0] 79):=⟨_,rfl⟩
  rw [← hw1] at hbx hb0 ⊢
  clear hw1
  have hcv:=Lib.run_convert_bytes_const (P:=Tryz.prog) w1 26 5 #[.int .u8 110,.int .u8 111,.int .u8 110,.int .u8 99,.int .u8 101] 5 5 Tryz.underlying26 Tryz.underlying5
  have hrw:Row (w1.alloc (.cells #[.int .u8 110,.int .u8 111,.int .u8 110,.int .u8 99,.int .u8 101] 5 (5,6))) (some ⟨w1.heap.size,0,none⟩) 5 noW:=row_word w1 noW (5,6) noW_byte
  have hb2:Below w1.heap.size w1 (w1.alloc (.cells #[.int .u8 110,.int .u8 111,.int .u8 110,.int .u8 99,.int .u8 101] 5 (5,6))):=(Below.refl _ _).alloc (Nat.le_refl _) _
  go_wp2_with fail
  clear hcv
  obtain ⟨w2,hw2⟩:∃ w2,w2=w1.alloc (.cells #[.int .u8 110,.int .u8 111,.int .u8 110,.int .u8 99,.int .u8 101] 5 (5,6)):=⟨_,rfl⟩
  rw [← hw2] at hrw hb2 ⊢
  clear hw2
  refine (specPutNum_any x _ (by omega)).mono ?_
  rintro e w3 ⟨a1,c1,rfl,ho1,hb3⟩
  obtain ⟨n1,hn1⟩:∃ n1,n1=(putI x).length:=⟨_,rfl⟩
  rw [← hn1] at ho1 ⊢
  clear hn1
  have hs2:=hb2.size
  have D3:Below w1.heap.size w1 w3:=hb2.trans (hb3.mono hs2)
  have B3:Below w.heap.size w w3:=hb0.trans (D3.mono hb0.size)
  have HRS:Hid (Rows2 (w3.alloc (.cells #[.slice (some ⟨w1.heap.size,0,none⟩) 5 5,.slice a1 n1 c1,.slice a n c] 26)) (some ⟨w3.heap.size,0,none⟩) 3 [noW,putI x,ms]):=by
   refine rows2_lit w3 [(some ⟨w1.heap.size,0,none⟩,5,5,noW),(a1,n1,c1,putI x),(a,n,c,ms)] 26 ?_
   intro p hp
   simp only [List.mem_cons,List.not_mem_nil,or_false] at hp
   rcases hp with rfl | rfl | rfl
   ·exact ⟨hrw.kept hb3,fun h=>by cases h⟩
   ·exact ⟨ho1.toRow,ho1.nil⟩
   ·exact ⟨H0.out.kept B3,hc⟩
  have D4:Below w1.heap.size w1 (w3.alloc (.cells #[.slice (some ⟨w1.heap.size,0,none⟩) 5 5,.slice a1 n1 c1,.slice a n c] 26)):=D3.alloc D3.size _
  clear hrw ho1 hb3 hb2
  go_wp2_with fail
  refine (specHashAll_any _ 3 3 [noW,putI x,ms] _ HRS.out (by decide) HT.out).mono ?_
  rintro e w4 ⟨rfl,hb4⟩
  have D5:Below w1.heap.size w1 w4:=D4.trans (hb4.mono D4.size)
  have B5:Below w.heap.size w w4:=hb0.trans (D5.mono hb0.size)
  clear hb4 D4 HRS D3 B3
  have HK:Hid (1+hashL (partsL [noW,putI x,ms]) % 500000002=nonN x ms):=rfl
  obtain ⟨hh,hhe⟩:∃ hh,hh=hashL (partsL [noW,putI x,ms]):=⟨_,rfl⟩
  have hhb:=hashL_bd (partsL [noW,putI x,ms])
  rw [← hhe] at HK hhb ⊢
  obtain ⟨hh0,hh1⟩:=hhb
  clear hhe
  obtain ⟨hk0,hk1⟩:=nonN_bd x ms
  go_wp2_with fail
  rw [HK.out]
  obtain ⟨k,hk⟩:∃ k,k=nonN x ms:=⟨_,rfl⟩
  have HK2:Hid (k=nonN x ms):=hk
  rw [← hk] at hk0 hk1 HK ⊢
  clear hk
  refine (l7PowP_any 4 k _ (by decide) (by decide) (by omega) (by omega)).mono ?_
  rintro e w5 ⟨rfl,rfl⟩
  go_wp2_with fail
  refine (specKeyOf_any x _).mono ?_
  rintro e w5 ⟨rfl,rfl⟩
  have hg:=gp_bd 4 k
  have hky:=keyOf_bd x
  go_wp2_with fail
  refine (specChallenge_any (gp 4 k) (keyOf x) a n c ms _ (H0.out.kept B5) hn hc (by omega) (by omega)).mono ?_
  rintro e w6 ⟨rfl,hb6⟩
  have hch:=chalN_bd (gp 4 k) (keyOf x) ms
  have HE:Hid (chalN (gp 4 k) (keyOf x) ms=sigE x ms):=by show _=_; rw [HK2.out]; rfl
  obtain ⟨ee,hee⟩:∃ ee,ee=chalN (gp 4 k) (keyOf x) ms:=⟨_,rfl⟩
  rw [← hee] at HE hch ⊢
  clear hee hg hky
  obtain ⟨hch0,hch1⟩:=hch
  obtain ⟨hp0,hp1⟩:=prod_bd hch0 (show ee<1000000007 by omega) (show 0≤x by omega) (show x<1000000007 by omega) (Int.le_refl _)
  have D6:Below w1.heap.size w1 w6:=D5.trans (hb6.mono D5.size)
  have hbx6:=(hbx.kept D6)
  have hc0:=hbx6.c0
  have hc1:=hbx6.c1
  have hf0:=hbx6.fr 0
  have hf1:=hbx6.fr 1
  have HBX:Hid (_):=hbx6
  have B6:Below w.heap.size w w6:=hb0.trans (D6.mono hb0.size)
  clear hbx6 hbx
  go_wp2
  try simp only [Exit.inBlock,Exit.then]
  refine bodyPost_ret (results_sig2 rfl _ w.heap.size rfl _ rfl _ _ (HBX.out.set ee ((k+ee * x) % 500000003))) rfl ⟨?_,below_set2 B6 _ (Nat.le_refl _) _ _⟩
  rw [HR.out,← HE.out,← HK2.out]
  rfl
 ·have HR:Hid (signR x ms=((0,0),false)):=by show _=_; unfold signR; rw [if_neg hs]
  have hbx:=boxS_new 79 w 0 0
  have hb0:Below w.heap.size w (w.alloc (.cells #[.int .i64 0,.int .i64 0] 79)):=(Below.refl _ _).alloc (Nat.le_refl _) _
  clear h
  go_enter Tryz.func45,Tryz.ntmps45
  go_wp2_with fail
  refine (l7Secret_any x _).mono ?_
  rintro r w1 ⟨rfl,rfl⟩
  rw [decide_eq_false hs]
  have HBX:Hid (_):=hbx
  clear hbx
  go_wp2
  try simp only [Exit.inBlock,Exit.then]
  refine bodyPost_ret (results_sig2 rfl _ w.heap.size rfl _ rfl _ _ HBX.out) rfl ⟨?_,hb0⟩
  rw [HR.out]
  rfl
open Go.RowKit
theorem results_it {fn:Func}{t:Tmp}(h:fn.results=#[.cell t 94])(tmps:Array Value)(g:Nat)(ht:tmps.getD t undef=.pointer (some ⟨g,0,none⟩))(w:World)(c0 c1 c2 c3 c4:Value)
  (hb:w.heap[g]? = some (.cells #[c0,c1,c2,c3,c4] 94 (0,0))):(results fn tmps).run Tryz.prog w=.ok (.agg #[c0,c1,c2,c3,c4]) w:=by
 have d0:w.cell? ⟨g,0,none⟩=some c0:=qk hb rfl
 have d1:w.cell? ⟨g,1,none⟩=some c1:=qk hb rfl
 have d2:w.cell? ⟨g,2,none⟩=some c2:=qk hb rfl
 have d3:w.cell? ⟨g,3,none⟩=some c3:=qk hb rfl
 have d4:w.cell? ⟨g,4,none⟩=some c4:=qk hb rfl
 clear hb
 have ht':tmps[t]?.getD undef=.pointer (some ⟨g,0,none⟩):=by rw [← ht]; simp
 simp [results,h,go_sem,ht',d0,d1,d2,d3,d4]
def put5I (w:World)(g:Nat)(u0 u1 u2 u3 u4:Value):World:=((((w.setCell ⟨g,0,none⟩ u0).setCell ⟨g,1,none⟩ u1).setCell ⟨g,2,none⟩ u2).setCell ⟨g,3,none⟩ u3).setCell ⟨g,4,none⟩ u4
theorem put5_heap {w:World}{g t:Nat}{c0 c1 c2 c3 c4:Value}(h:w.heap[g]? = some (.cells #[c0,c1,c2,c3,c4] t (0,0)))(u0 u1 u2 u3 u4:Value):(put5I w g u0 u1 u2 u3 u4).heap[g]? = some (.cells #[u0,u1,u2,u3,u4] t (0,0)) :=
 heap_setCell_same _ _ 4 _ t _ (heap_setCell_same _ _ 3 _ t _ (heap_setCell_same _ _ 2 _ t _ (heap_setCell_same _ _ 1 _ t _ (heap_setCell_same _ _ 0 _ t _ h))))
theorem touch_set {p q:Nat}(w:World)(g j:Nat)(u:Value)(h1:p≤g)(h2:g<q):Touch p q w (w.setCell ⟨g,j,none⟩ u) :=
 ⟨rfl,rfl,rfl,by simp,fun k _ hk=>heap_setCell_other w ⟨g,j,none⟩ k u (by simp; omega)⟩
theorem touch_set1 (w:World)(g j:Nat)(u:Value):Touch g (g+1) w (w.setCell ⟨g,j,none⟩ u):=touch_set w g j u (Nat.le_refl _) (Nat.lt_succ_self _)
theorem put5_touch (w:World)(g:Nat)(u0 u1 u2 u3 u4:Value):Touch g (g+1) w (put5I w g u0 u1 u2 u3 u4) :=
 ((((touch_set1 w g 0 u0).trans (touch_set1 _ g 1 u1)).trans (touch_set1 _ g 2 u2)).trans (touch_set1 _ g 3 u3)).trans (touch_set1 _ g 4 u4)
structure Box5 (w:World)(g:Nat):Prop where
 b:w.heap[g]? = some (.cells #[.int .i64 0,.int .i64 0,.bool false,.slice none 0 0,.slice none 0 0] 94 (0,0))
 c0:w.cell? ⟨g,0,none⟩=some (.int .i64 0)
 c1:w.cell? ⟨g,1,none⟩=some (.int .i64 0)
 c2:w.cell? ⟨g,2,none⟩=some (.bool false)
 c3:w.cell? ⟨g,3,none⟩=some (.slice none 0 0)
 c4:w.cell? ⟨g,4,none⟩=some (.slice none 0 0)
 f0:w.frozen? ⟨g,0,none⟩=false
 f1:w.frozen? ⟨g,1,none⟩=false
 f2:w.frozen? ⟨g,2,none⟩=false
 f3:w.frozen? ⟨g,3,none⟩=false
 f4:w.frozen? ⟨g,4,none⟩=false
theorem Box5.of {w:World}{g:Nat}(h:w.heap[g]? = some (.cells #[.int .i64 0,.int .i64 0,.bool false,.slice none 0 0,.slice none 0 0] 94 (0,0))):Box5 w g :=
 ⟨h,(cell_of_row _ g 0 _ 94 (0,0) h).trans rfl,(cell_of_row _ g 1 _ 94 (0,0) h).trans rfl,(cell_of_row _ g 2 _ 94 (0,0) h).trans rfl,(cell_of_row _ g 3 _ 94 (0,0) h).trans rfl,(cell_of_row _ g 4 _ 94 (0,0) h).trans rfl,
  frozen_of_row w g 0 _ 94 h,frozen_of_row w g 1 _ 94 h,frozen_of_row w g 2 _ 94 h,frozen_of_row w g 3 _ 94 h,frozen_of_row w g 4 _ 94 h⟩
def box5 (w:World):World:=w.alloc (.cells #[.int .i64 0,.int .i64 0,.bool false,.slice none 0 0,.slice none 0 0] 94)
theorem box5_new (w:World):(box5 w).heap[w.heap.size]? = some (.cells #[.int .i64 0,.int .i64 0,.bool false,.slice none 0 0,.slice none 0 0] 94 (0,0)):=heap_alloc_new w _
theorem box5_below (w:World):Below w.heap.size w (box5 w):=(Below.refl _ _).alloc (Nat.le_refl _) _
theorem box5_size (w:World):(box5 w).heap.size=w.heap.size+1:=by unfold box5; simp
def numI (n:Int):It:=.mk 0 2 false (wbL n) []
def bytI (bs:List Int):It:=.mk 0 4 false bs []
def boxI (tag:Int)(ks:List It):It:=.mk 1 tag true [] ks
theorem ownItem_any (tag:Int)(a:Option Addr)(n c:Nat)(ks:List It)(w:World) :
  Calls Tryz.prog 66 #[.int .i64 tag,.slice a n c] w fun e w'=>e=.returned (itv (boxI tag ks) none 0 0 a n c)∧Below w.heap.size w w':=by
 go_enter Tryz.func66,Tryz.ntmps66
 go_wp2_with fail
 try simp only [Exit.inBlock,Exit.then]
 exact bodyPost_ret (results_it rfl _ w.heap.size rfl _ _ _ _ _ _ (heap_alloc_new w _)) rfl ⟨rfl,(Below.refl _ _).alloc (Nat.le_refl _) _⟩
theorem bytesItem_any (a:Option Addr)(n c:Nat)(bs:List Int)(w:World) :
  Calls Tryz.prog 140 #[.slice a n c] w fun e w'=>e=.returned (itv (bytI bs) a n c none 0 0)∧Below w.heap.size w w':=by
 go_enter Tryz.func140,Tryz.ntmps140
 go_wp2_with fail
 try simp only [Exit.inBlock,Exit.then]
 exact bodyPost_ret (results_it rfl _ w.heap.size rfl _ _ _ _ _ _ (heap_alloc_new w _)) rfl ⟨rfl,(Below.refl _ _).alloc (Nat.le_refl _) _⟩
theorem in_at {g k n lo hi:Nat}(h1:lo≤g)(h2:g<hi):In (some ⟨g,k,none⟩) n lo hi:=by
 intro b off ha _
 simp at ha
 omega
theorem Row.blk {w:World}{g k n:Nat}{bs:List Int}(h:Row w (some ⟨g,k,none⟩) n bs)(hn:0<n):g<w.heap.size:=by
 obtain ⟨b,off,ha,hb,_⟩:=h.get 0 hn
 simp at ha
 omega
theorem numberItem_any (n:Int)(w:World)(h0 : -9223372036854775808≤n)(h1:n≤9223372036854775807) :
  Calls Tryz.prog 68 #[.int .i64 n] w fun e w'=>∃ g k,e=.returned (itv (numI n) (some ⟨g,k,none⟩) (wsz n) (wsz n) none 0 0)∧w.heap.size≤g∧Row w' (some ⟨g,k,none⟩) (wsz n) (wbL n)∧Below w.heap.size w w':=by
 have hsz:=wsz_bd n
 go_enter Tryz.func68,Tryz.ntmps68
 go_wp2_with fail
 have hbx:=box5_below w
 have hnx:=box5_new w
 have hsx:=box5_size w
 obtain ⟨wb,hwb⟩:∃ wb,wb=box5 w:=⟨_,rfl⟩
 rw [← hwb] at hbx hnx hsx
 unfold box5 at hwb
 rw [← hwb]
 clear hwb
 refine (wholeBytes_any n _ h0 h1).mono ?_
 rintro e w1 ⟨g,k,rfl,hg,hr,hb1⟩
 have hn1:=(hb1.block _ (by omega)).trans hnx
 have B1:Below w.heap.size w w1:=hbx.trans (hb1.mono hbx.size)
 obtain ⟨_,x0,x1,x2,x3,x4,y0,y1,y2,y3,y4⟩:=Box5.of hn1
 have HR:Hid (Row w1 (some ⟨g,k,none⟩) (wsz n) (wbL n)):=hr
 have HN:Hid (_):=hn1
 have HB:Hid (Below w.heap.size w w1):=B1
 have hgl:=hr.blk (by omega)
 have hs1:=hb1.size
 clear hr hn1 B1 hb1 hnx hbx
 go_wp2_with fail
 try simp only [Exit.inBlock,Exit.then]
 refine bodyPost_ret (results_it rfl _ w.heap.size rfl _ _ _ _ _ _ (put5_heap HN.out _ _ _ _ _)) rfl ⟨g,k,rfl,by omega,?_,?_⟩
 ·exact HR.out.touch (in_at (lo:=g) (hi:=g+1) (Nat.le_refl _) (by omega)) (.inr (by omega)) (put5_touch w1 w.heap.size _ _ _ _ _)
 ·exact HB.out.trans ((put5_touch w1 w.heap.size _ _ _ _ _).below (Nat.le_refl _) (by omega))
theorem Own.touch5 {B lo hi:Nat}{w w':World}{a:Option Addr}{n cap:Nat}{bs:List Int}(h:Own B w a n cap bs)(ht:Touch lo hi w w')(hd:hi≤B):Own B w' a n cap bs:=by
 refine ⟨⟨h.row.1,?_⟩,h.byte⟩
 rcases h.row.2 with hn' | ⟨g,cap',cur,hv,hbb,hgg,rest⟩
 ·exact .inl hn'
 ·exact .inr ⟨g,cap',cur,hv,hbb,(ht.block g (Array.getElem?_eq_some_iff.1 hgg).1 (by omega)).trans hgg,rest⟩
theorem l2Leaf_any (tag:Int)(a:Option Addr)(n c:Nat)(bs:List Int)(w:World)(h:Row w a n bs)(hc:a=none→c=0)(hn:n≤1000) :
  Calls Tryz.prog 96 #[.int .i64 0,.int .i64 tag,.slice a n c] w fun e w'=>∃ a' c',e=.returned (itv (.mk 0 tag false bs []) a' n c' none 0 0)∧Own (w.heap.size+1) w' a' n c' bs∧Below w.heap.size w w':=by
 obtain ⟨i0,hi,hz0,hz1,hz2⟩:=info_parts Tryz.info5
 have hbx:=box5_below w
 have hnx:=box5_new w
 have hsx:=box5_size w
 have hal:Below (box5 w).heap.size (box5 w) ((box5 w).alloc (.cells #[] 5)):=(Below.refl _ _).alloc (Nat.le_refl _) _
 have hor0:Own (w.heap.size+1) ((box5 w).alloc (.cells #[] 5)) (some ⟨w.heap.size+1,0,none⟩) 0 0 []:=own_zero _ _ _ (by rw [hsx]) (by rw [hsx]; exact Nat.le_refl _)
 have hB1:Below w.heap.size w ((box5 w).alloc (.cells #[] 5)):=hbx.trans (hal.mono hbx.size)
 have hn1:=(hal.block _ (by omega)).trans hnx
 have HR:Hid (Row ((box5 w).alloc (.cells #[] 5)) a n bs):=h.kept (hB1.mono (Nat.le_refl _))
 have HN:Hid (_):=hn1
 have hsz1:((box5 w).alloc (.cells #[] 5)).heap.size=w.heap.size+2:=by simp [hsx]
 have HO:Hid (_):=hor0
 have HB1:Hid (_):=hB1
 clear h hal hbx hnx hn1 hor0 hB1
 unfold box5 at HR HN HO HB1 hsz1 hsx
 go_enter Tryz.func96,Tryz.ntmps96
 go_wp2_with (at_builtin; refine wpList_append_row _ rfl (.tmp 9) (.tmp 10) 26 rfl (w.heap.size+1) i0 Tryz.underlying26 hi hz0 hz1 hz2 _ _ _ rfl HO.out.row a n c bs rfl HR.out hc (by omega) (by rw [hsz1]; omega) ?_; intro v1 w1 hv1 hg1; obtain ⟨a1,c1,rfl,ho1⟩:=own_appended (xs:=[]) (ys:=bs) hv1 HO.out.byte HR.out.byte; have hb1:Below w.heap.size w w1:=below_appended HB1.out HB1.out.size (HO.out.mono (by omega)).row hg1; have ho1':Own (w.heap.size+1) w1 a1 n c1 bs:=(by simpa using ho1); have hn2:w1.heap[w.heap.size]? = some (.cells #[.int .i64 0,.int .i64 0,.bool false,.slice none 0 0,.slice none 0 0] 94 (0,0)):=(hg1.block w.heap.size (by rw [hsz1]; omega) (by show some w.heap.size≠some (w.heap.size+1); simp)).trans HN.out; obtain ⟨_,x0,x1,x2,x3,x4,y0,y1,y2,y3,y4⟩:=Box5.of hn2; have HN2:Hid (_):=hn2; have HB2:Hid (Below w.heap.size w w1):=hb1; have HO2:Hid (Own (w.heap.size+1) w1 a1 n c1 bs):=ho1'; have hs1:=hg1.size; clear hn2 hb1 ho1 ho1' hv1 hg1)
 try simp only [Exit.inBlock,Exit.then]
 refine bodyPost_ret (results_it rfl _ w.heap.size rfl _ _ _ _ _ _ (put5_heap HN2.out _ _ _ _ _)) rfl ⟨a1,c1,by first | rfl | simp [itv,It.cls,It.tag,It.cons],?_,?_⟩
 ·exact HO2.out.touch5 (put5_touch w1 w.heap.size _ _ _ _ _) (by omega)
 ·exact HB2.out.trans ((put5_touch w1 w.heap.size _ _ _ _ _).below (Nat.le_refl _) HB2.out.size)
theorem l9Bytes_any (a:Option Addr)(n c:Nat)(bs:List Int)(w:World)(h:Row w a n bs)(hc:a=none→c=0)(hn:n≤1000) :
  Calls Tryz.prog 95 #[.slice a n c] w fun e w'=>∃ a c,e=.returned (itv (bytI bs) a n c none 0 0)∧Own (w.heap.size+1) w' a n c bs∧Below w.heap.size w w':=by
 have hbx:=box5_below w
 have hnx:=box5_new w
 have hsx:=box5_size w
 obtain ⟨wb,hwb⟩:∃ wb,wb=box5 w:=⟨_,rfl⟩
 rw [← hwb] at hbx hnx hsx
 unfold box5 at hwb
 go_enter Tryz.func95,Tryz.ntmps95
 go_wp2_with fail
 rw [← hwb]
 clear hwb
 have hnx1:=hnx
 have B1:=hbx
 refine (l2Leaf_any 4 a n c bs _ (h.kept hbx) hc hn).mono ?_
 rintro e w2 ⟨a2,c2,rfl,ho2,hb2⟩
 have hs2:=hb2.size
 have hn1:=(hb2.block _ (by omega)).trans (hnx1)
 have B2:Below w.heap.size w w2:=B1.trans (hb2.mono (by omega))
 obtain ⟨_,x0,x1,x2,x3,x4,y0,y1,y2,y3,y4⟩:=Box5.of hn1
 have HO:Hid (Own (w.heap.size+1) w2 a2 n c2 bs):=ho2.mono (by omega)
 have HN:Hid (_):=hn1
 have HB:Hid (Below w.heap.size w w2):=B2
 clear ho2 hn1 B2 B1 hb2 hnx hbx hnx1
 unfold itv
 simp only [It.cls,It.tag,It.cons]
 go_wp2_with fail
 try simp only [Exit.inBlock,Exit.then]
 refine bodyPost_ret (results_it rfl _ w.heap.size rfl _ _ _ _ _ _ (put5_heap HN.out _ _ _ _ _)) rfl ⟨a2,c2,rfl,?_,?_⟩
 ·exact HO.out.touch5 (put5_touch w2 w.heap.size _ _ _ _ _) (by omega)
 ·exact HB.out.trans ((put5_touch w2 w.heap.size _ _ _ _ _).below (Nat.le_refl _) HB.out.size)
theorem l9Num_any (n:Int)(w:World) :
  Calls Tryz.prog 52 #[.int .i64 n] w fun e w'=>∃ a c,e=.returned (itv (numI n) a (wsz n) c none 0 0)∧Own (w.heap.size+1) w' a (wsz n) c (wbL n)∧Below w.heap.size w w':=by
 have hbx:=box5_below w
 have hnx:=box5_new w
 have hsx:=box5_size w
 obtain ⟨wb,hwb⟩:∃ wb,wb=box5 w:=⟨_,rfl⟩
 rw [← hwb] at hbx hnx hsx
 unfold box5 at hwb
 go_enter Tryz.func52,Tryz.ntmps52
 go_wp2_with fail
 rw [← hwb]
 clear hwb
 have hsz:=wsz_bd n
 refine (l3Number_any n _).mono ?_
 rintro e w1 ⟨a1,c1,rfl,ho1,hb1⟩
 have hs1:=hb1.size
 have hnx1:=(hb1.block _ (by omega)).trans hnx
 have B1:Below w.heap.size w w1:=hbx.trans (hb1.mono hbx.size)
 go_wp2_with fail
 refine (l2Leaf_any 2 a1 (wsz n) c1 (wbL n) _ ho1.toRow ho1.nil (by omega)).mono ?_
 rintro e w2 ⟨a2,c2,rfl,ho2,hb2⟩
 clear hb1 ho1
 have hs2:=hb2.size
 have hn1:=(hb2.block _ (by omega)).trans (hnx1)
 have B2:Below w.heap.size w w2:=B1.trans (hb2.mono (by omega))
 obtain ⟨_,x0,x1,x2,x3,x4,y0,y1,y2,y3,y4⟩:=Box5.of hn1
 have HO:Hid (Own (w.heap.size+1) w2 a2 (wsz n) c2 (wbL n)):=ho2.mono (by omega)
 have HN:Hid (_):=hn1
 have HB:Hid (Below w.heap.size w w2):=B2
 clear ho2 hn1 B2 B1 hb2 hnx hbx hnx1
 unfold itv
 simp only [It.cls,It.tag,It.cons]
 go_wp2_with fail
 try simp only [Exit.inBlock,Exit.then]
 refine bodyPost_ret (results_it rfl _ w.heap.size rfl _ _ _ _ _ _ (put5_heap HN.out _ _ _ _ _)) rfl ⟨a2,c2,rfl,?_,?_⟩
 ·exact HO.out.touch5 (put5_touch w2 w.heap.size _ _ _ _ _) (by omega)
 ·exact HB.out.trans ((put5_touch w2 w.heap.size _ _ _ _ _).below (Nat.le_refl _) HB.out.size)
end Go.Proofs.YtnmplldhdfingaaGreatDoor
