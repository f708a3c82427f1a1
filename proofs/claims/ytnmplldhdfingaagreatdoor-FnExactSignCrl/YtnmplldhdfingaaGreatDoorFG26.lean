import Derived.Lib.AppendIntMem
import Derived.Lib.ItoaLen
import Derived.Lib.AppendStr
import Derived.Lib.Slices
import Derived.Lib.Hide
import Derived.Test.YtnmplldhdfingaaGreatDoorShelf
import Derived.Test.YtnmplldhdfingaaGreatDoorFG25
import Derived.Test.YtnmplldhdfingaaGreatDoorFG17
import Derived.Test.YtnmplldhdfingaaGreatDoorFG24
set_option maxRecDepth 10000
set_option maxHeartbeats 8000000
set_option linter.unusedVariables false
namespace Go.Proofs.YtnmplldhdfingaaGreatDoor
open Go.RowKit
def flatL (zs:List Int):List Int:=zs.flatMap eightI
theorem flatL_len (zs:List Int):(flatL zs).length=8 * zs.length:=by
 induction zs with
 | nil=>rfl
 | cons z zs ih =>
  have e:flatL (z::zs)=eightI z++flatL zs:=by simp [flatL]
  rw [e,List.length_append,eightI_len,ih,List.length_cons]
  omega
theorem flatL_next (zs:List Int)(j:Nat)(h:j<zs.length):flatL (zs.take (j+1))=flatL (zs.take j)++eightI (zs.getD j 0):=by
 rw [take_snoc zs j h]
 simp [flatL]
def sgT (x h n:Int)(ms:List Int):List Int:=putI n++flatL (endSs x n ms++pathN (leavesN x (2 ^ h.toNat)) n.toNat h.toNat)
def saT (x h n:Int)(ms:List Int):List Int × Int × Int:=if n=((2 ^ h.toNat:Nat):Int) then ([],n,2) else (sgT x h n ms,n+1,0)
theorem heap_set_at {w:World}{g t:Nat}{c0 c1 c2 c3:Value}(h:w.heap[g]? = some (.cells #[c0,c1,c2,c3] t (0,0)))(v:Value):(w.setCell ⟨g,3,none⟩ v).heap[g]? = some (.cells #[c0,c1,c2,v] t (0,0)):=heap_setCell_same w g 3 _ t v h
theorem ownU_nil' {B:Nat}{w:World}{a:Option Addr}{n cap:Nat}{zs:List Int}(h:OwnU B w a n cap zs):a=none→cap=0:=by
 intro e
 rcases h.row.2 with ⟨hv,_⟩ | ⟨g,cap',cur,hv,_⟩
 ·simp only [Value.slice.injEq] at hv; exact hv.2.2
 ·simp only [Value.slice.injEq] at hv; rw [e] at hv; cases hv.1
theorem own_other {B:Nat}{w:World}{a:Option Addr}{n cap gz:Nat}{bs:List Int}{cur:Array Value}(h:Own B w a n cap bs)(hz:w.heap[gz]? = some (.cells cur 29 (0,0))):some gz≠(Value.slice a n cap).ownBlock:=by
 intro he
 rcases h.row.2 with ⟨hv,_⟩ | ⟨g',cap',cur',hv,_,hh,_⟩
 ·rw [hv] at he; cases he
 ·rw [hv] at he
  simp only [Value.ownBlock,Option.some.injEq] at he
  rw [← he,hz] at hh
  simp at hh
theorem cells3' {W:World}{g:Nat}{x y z:Value}{t:TypeId}(h:W.heap[g]? = some (.cells #[x,y,z] t (0,0))):W.cell? ⟨g,0,none⟩=some x∧W.cell? ⟨g,1,none⟩=some y∧W.cell? ⟨g,2,none⟩=some z :=
 ⟨(cell_of_row _ _ 0 _ t (0,0) h).trans rfl,(cell_of_row _ _ 1 _ t (0,0) h).trans rfl,(cell_of_row _ _ 2 _ t (0,0) h).trans rfl⟩
theorem Bx2.next {g:Nat}{sc x h n:Int}{w1:World}(b:Bx2 g sc x h n w1)(m:Int):Bx2 g sc x h m (w1.setCell ⟨g,3,none⟩ (.int .i64 m)) :=
 ⟨heap_set_at b.s _,(Below.heap_setCell _ _ _ _ (by simp)).trans b.r⟩
theorem treeSign_any (sc x h n:Int)(am:Option Addr)(nn c:Nat)(ms:List Int)(w:World)(hx:U64 x)(hk:kP h n)(hr:Row w am nn ms)(hn:nn≤1048576) :
  Calls Tryz.prog 190 #[.agg #[],scv sc x h n,.slice am nn c] w fun e w'=>∃ a cap,e=.returned (.tuple #[.slice a (saT x h n ms).1.length cap,scv sc x h (saT x h n ms).2.1,.int .i64 (saT x h n ms).2.2])∧Own w.heap.size w' a (saT x h n ms).1.length cap (saT x h n ms).1∧Below w.heap.size w w':=by
 obtain ⟨i0,hi,hz0,hz1,hz2⟩:=info_parts Tryz.info5
 obtain ⟨w1,hw1⟩:∃ w1,w1=((w.alloc (.cells #[] 167)).alloc (.cells #[.int .i64 sc,.int .u64 x,.int .i64 h,.int .i64 n] 39)).alloc (.cells #[.int .i64 0,.int .u64 0,.int .i64 0,.int .i64 0] 39):=⟨_,rfl⟩
 have hbb:Below w.heap.size w w1:=by rw [hw1]; exact three_belowT _ _ _ _
 have HB1:Hid (Bx2 (w.heap.size+1) sc x h n w1):=by
  show Bx2 _ _ _ _ _ _
  rw [hw1]
  exact ⟨(alloc_oldT _ _ _ (by simp)).trans (two_blocks w _ _).2,three_blocksT _ _ _ _⟩
 have hs1:w1.heap.size=w.heap.size+1+1+1:=by rw [hw1]; simp
 have HW:Hid (_=_):=hw1
 have HR1:Hid (Row w1 am nn ms):=hr.kept hbb
 clear hw1 hr
 obtain ⟨T,hT⟩:∃ T,T=saT x h n ms:=⟨_,rfl⟩
 rw [← hT,scv]
 have HT0:Hid (_=_):=hT
 clear hT
 go_enter Tryz.func190,Tryz.ntmps190
 go_upto_region 1 with fail
 rw [← HW.out]
 clear HW
 obtain ⟨s0,s1,s2,s3⟩:=cells4 HB1.out.s
 go_wp2_with fail
 refine (treeKeyOf_any sc x h n _).mono ?_
 rintro e w2 ⟨rfl,hb2⟩
 clear s0 s1 s2 s3
 go_wp2_with fail
 refine (implTreeSign_any x h n am nn c ms _ hx (HR1.out.kept hb2) (by omega)).mono ?_
 rintro e w3 ⟨v,rfl,hv,hb3⟩
 have hb13:=keepT hb2 hb3
 have hs2:=hb2.size
 have hs3:=hb3.size
 cases hv with
 | bad hkk=>exact absurd hk hkk
 | used _ hu =>
  have HT:Hid (T=([],n,2)):=by show _=_; rw [HT0.out]; unfold saT; rw [if_pos hu]
  clear hu
  rw [tsv,tkv]
  obtain ⟨w5,hw5⟩:∃ w5,w5=(w3.alloc (.cells #[.int .i64 0,.slice none 0 0,.slice none 0 0] 85)).alloc (.cells #[.int .u64 x,.int .i64 h,.int .i64 n] 87):=⟨_,rfl⟩
  have hb5:Below w3.heap.size w3 w5:=by rw [hw5]; exact two_below _ _ _
  have hk5:w5.heap[w3.heap.size+1]? = some (.cells #[.int .u64 x,.int .i64 h,.int .i64 n] 87):=by rw [hw5]; exact (two_blocks _ _ _).2
  have hb15:=keepT hb13 hb5
  have hx5:=HB1.out.kept hb15
  have HW5:Hid (_=_):=hw5
  clear hw5
  go_upto_region 2 with fail
  rw [← HW5.out]
  clear HW5
  have t2:w5.cell? ⟨w3.heap.size+1,2,none⟩=some (.int .i64 n):=qk hk5 rfl
  obtain ⟨s0,s1,s2,s3⟩:=cells4 hx5.s
  obtain ⟨f0,f1,f2,f3⟩:=frozen4 hx5.s
  have hx6:=hx5.next n
  have HX6:Hid (_):=hx6
  obtain ⟨w6,hw6⟩:∃ w6,w6=w5.setCell ⟨w.heap.size+1,3,none⟩ (.int .i64 n):=⟨_,rfl⟩
  have hb6:Below w.heap.size w w6:=by rw [hw6]; exact (keepT hbb hb15).setCell (by show w.heap.size≤w.heap.size+1; omega) _
  rw [← hw6] at hx6 HX6
  have HW6:Hid (_=_):=hw6
  clear hw6
  go_upto_region 4 with fail
  rw [← HW6.out]
  clear HW6 s0 s1 s2 s3 f0 f1 f2 f3 t2
  obtain ⟨s0,s1,s2,s3⟩:=cells4 hx6.s
  obtain ⟨r0,r1,r2,r3⟩:=cells4 hx6.r
  obtain ⟨f0,f1,f2,f3⟩:=frozen4 hx6.r
  clear hx6 hx5 hk5
  go_region
  all_goals
   go_wp2
   try simp only [Exit.inBlock,Exit.then]
   exact bodyPost_ret (results_sa rfl _ (w.heap.size+1+1) rfl _ rfl _ rfl _ _ _ _ _ (by first | exact heap_set4 HX6.out.r _ _ _ _ | (rw [heap_drew]; exact heap_set4 HX6.out.r _ _ _ _))) rfl ⟨none,0,by rw [HT.out]; rfl,by rw [HT.out]; exact own_none _ _,by first | exact below_set4 hb6 _ (by omega) _ _ _ _ | exact (below_set4 hb6 _ (by omega) _ _ _ _).drew⟩
 | made _ hu a1 c1 a2 c2 M h1 hM hB h2 =>
  obtain ⟨zs,hzs⟩:∃ zs,zs=endSs x n ms++pathN (leavesN x (2 ^ h.toNat)) n.toNat h.toNat:=⟨_,rfl⟩
  have HT:Hid (T=(putI n++flatL zs,n+1,0)):=by show _=_; rw [HT0.out,hzs]; unfold saT sgT; rw [if_neg hu]
  obtain ⟨H,hH⟩:∃ H,H=h.toNat:=⟨_,rfl⟩
  have hH5:H≤5:=by have:=hk.1; omega
  obtain ⟨es,hes⟩:∃ es,es=endSs x n ms:=⟨_,rfl⟩
  obtain ⟨ps,hps⟩:∃ ps,ps=pathN (leavesN x (2 ^ h.toNat)) n.toNat h.toNat:=⟨_,rfl⟩
  rw [← hes,← hps] at hzs
  rw [← hes] at h1
  rw [← hps,← hH] at h2
  rw [← hH]
  have hnb:n≤9223372036854775806:=by
   have a1:=hk.2.2
   rw [← hH] at a1
   have a2:2 ^ H≤2 ^ 5:=Nat.pow_le_pow_right (by decide) hH5
   omega
  have HZL:Hid (zs.length=18+H):=by show _=_; rw [hzs,List.length_append,h1.len,h2.len]
  have HZ:Hid (zs=es++ps):=hzs
  clear hH hes hps hzs hu
  rw [tsv,tkv]
  obtain ⟨w5,hw5⟩:∃ w5,w5=(w3.alloc (.cells #[.int .i64 n,.slice a1 18 c1,.slice a2 H c2] 85)).alloc (.cells #[.int .u64 x,.int .i64 h,.int .i64 (n+1)] 87):=⟨_,rfl⟩
  have hb5:Below w3.heap.size w3 w5:=by rw [hw5]; exact two_below _ _ _
  have hk5:w5.heap[w3.heap.size+1]? = some (.cells #[.int .u64 x,.int .i64 h,.int .i64 (n+1)] 87):=by rw [hw5]; exact (two_blocks _ _ _).2
  have hg5:w5.heap[w3.heap.size]? = some (.cells #[.int .i64 n,.slice a1 18 c1,.slice a2 H c2] 85):=by rw [hw5]; exact (two_blocks _ _ _).1
  have hb15:=keepT hb13 hb5
  have hx5:=HB1.out.kept hb15
  have HW5:Hid (_=_):=hw5
  clear hw5
  go_upto_region 2 with fail
  rw [← HW5.out]
  clear HW5
  have t2:w5.cell? ⟨w3.heap.size+1,2,none⟩=some (.int .i64 (n+1)):=qk hk5 rfl
  obtain ⟨s0,s1,s2,s3⟩:=cells4 hx5.s
  obtain ⟨f0,f1,f2,f3⟩:=frozen4 hx5.s
  obtain ⟨w6,hw6⟩:∃ w6,w6=w5.setCell ⟨w.heap.size+1,3,none⟩ (.int .i64 (n+1)):=⟨_,rfl⟩
  have hb6:Below w.heap.size w w6:=by rw [hw6]; exact (keepT hbb hb15).setCell (by show w.heap.size≤w.heap.size+1; omega) _
  have HX6:Hid (Bx2 (w.heap.size+1) sc x h (n+1) w6):=by show Bx2 _ _ _ _ _ _; rw [hw6]; exact hx5.next _
  have HU1:Hid (OwnU w2.heap.size w6 a1 18 c1 es):=by show OwnU _ _ _ _ _ _; rw [hw6]; exact (h1.kept hb5).set (by omega) _ _
  have HU2:Hid (OwnU M w6 a2 H c2 ps):=by show OwnU _ _ _ _ _ _; rw [hw6]; exact (h2.kept hb5).set (by omega) _ _
  have HG6:Hid (w6.heap[w3.heap.size]? = some (.cells #[.int .i64 n,.slice a1 18 c1,.slice a2 H c2] 85)):=by show _=_; rw [hw6]; exact (Below.heap_setCell _ _ _ _ (by simp; omega)).trans hg5
  have hsz6:w.heap.size+1+1<w6.heap.size:=(Array.getElem?_eq_some_iff.1 HX6.out.r).1
  have HW6:Hid (_=_):=hw6
  clear hw6 hx5 hk5 hg5 h1 h2 hM hB
  go_upto_region 5 with fail
  rw [← HW6.out]
  clear HW6 s0 s1 s2 s3 f0 f1 f2 f3 t2
  obtain ⟨g0,g1,g2⟩:=cells3' HG6.out
  go_wp2_with fail
  refine (implPutNum_any n _ (by omega)).mono ?_
  rintro e w7 ⟨a7,c7,rfl,ho7,hb7⟩
  clear g0 g1 g2
  have e7:=(hb7.block _ (Array.getElem?_eq_some_iff.1 HG6.out).1).trans HG6.out
  obtain ⟨g0,g1,g2⟩:=cells3' e7
  have HO7:Hid (Own w6.heap.size w7 a7 (putI n).length c7 (putI n)):=ho7
  clear e7 ho7
  go_wp2_with fail
  have hb8:Below w7.heap.size w7 (w7.alloc (.cells #[.slice a1 18 c1,.slice a2 H c2] 83)):=(Below.refl _ _).alloc (Nat.le_refl _) _
  refine (concatU_two w7.heap.size a1 18 c1 es a2 H c2 ps _ (heap_alloc_new w7 _) ((HU1.out.toRow.kept hb7).kept hb8) (ownU_nil' HU1.out) ((HU2.out.toRow.kept hb7).kept hb8) (ownU_nil' HU2.out) (by decide) (by omega)).mono ?_
  rintro e w9 ⟨az,cz,rfl,hoz,hb9⟩
  clear g0 g1 g2
  have hb79:=keepT hb8 hb9
  have hb69:=keepT hb7 hb79
  have HZ9:Hid (RowU w9 az (18+H) zs):=by show RowU _ _ _ _; rw [HZ.out]; exact hoz.toRow
  have HO9:Hid (Own w6.heap.size w9 a7 ((putI n).length+8 * 0) c7 (putI n++flatL (zs.take 0))):=by
   show Own _ _ _ _ _ _
   have:=HO7.out.kept hb79
   simpa [flatL] using this
  have hpl:=putI_len n (by omega)
  obtain ⟨gz,cur,rfl,hgz⟩:∃ gz cur,az=some ⟨gz,0,none⟩∧w9.heap[gz]? = some (.cells cur 29 (0,0)):=by
   rcases hoz.row.2 with ⟨_,h0⟩ | ⟨g,cap',cur,hv,_,hg,_⟩
   ·omega
   ·simp only [Value.slice.injEq] at hv
    exact ⟨g,cur,hv.1,hg⟩
  clear hoz HO7
  go_wp2
  go_loopw [12,40] (fun o i wr=>∃ (j cc:Nat) (ao:Option Addr),j≤18+H∧i=.int .i64 j∧o=.slice ao ((putI n).length+8 * j) cc∧Own w6.heap.size wr ao ((putI n).length+8 * j) cc (putI n++flatL (zs.take j))∧Below w6.heap.size w6 wr∧wr.heap[gz]? = some (.cells cur 29 (0,0))) (fun _ i _=>18+H - (intOf i).toNat)
  case atStart=>exact ⟨0,c7,a7,by omega,rfl,rfl,HO9.out,hb69,hgz⟩
  case round =>
   obtain ⟨j,cc,ao,hj,rfl,rfl,hor,hbr,hzr⟩:=hrel
   have hszr:=hbr.size
   by_cases hlt:j<18+H
   ·have hlti:(j:Int)<((18+H:Nat):Int):=by omega
    have hlti2:(j:Int)<18+(H:Int):=by omega
    obtain ⟨b,off,hb',hlb,hcz⟩:=HZ9.out.get j hlt
    simp only [Option.some.injEq,Addr.mk.injEq,and_true] at hb'
    obtain ⟨rfl,rfl⟩:=hb'
    have hc0:wr.cell? ⟨gz,0+j,none⟩=some (.int .u64 (zs.getD j 0)):=(World.cell?_of_block (hzr.trans hgz.symm)).trans hcz
    rw [Nat.zero_add] at hc0
    have hzb:=HZ9.out.rng j
    obtain ⟨z,hz⟩:∃ z,z=zs.getD j 0:=⟨_,rfl⟩
    have HNX:Hid (flatL (zs.take (j+1))=flatL (zs.take j)++eightI z):=by show _=_; rw [hz]; exact flatL_next zs j (by rw [HZL.out]; exact hlt)
    rw [← hz] at hc0 hzb
    have HOR:Hid (_):=hor
    have HZR:Hid (_=_):=hzr
    have HGZ:Hid (_=_):=hgz
    clear hz hcz hor hzr hgz
    go_wp2_with fail
    refine (digestBytes_any z _ hzb.1 hzb.2).mono ?_
    rintro e wd ⟨gd,rfl,hrd,_,hbd⟩
    have hod:=HOR.out.kept hbd
    have hzd:=(hbd.block _ (Array.getElem?_eq_some_iff.1 HZR.out).1).trans HZR.out
    have hcd:=keepT hbr hbd
    have hszd:=hcd.size
    clear hc0
    go_wp2_with (first | (refine wpList_append_row _ rfl _ _ 26 rfl w6.heap.size i0 Tryz.underlying26 hi hz0 hz1 hz2 _ ((putI n).length+8 * j) _ rfl hod.row (some ⟨gd,0,none⟩) 8 8 (eightI z) rfl hrd (fun h=>by cases h) (by omega) hszd ?_; intro v4 w4 hv4 hg4))
    have hbr4:Below w6.heap.size w6 w4:=below_appended hcd hszd hod.row hg4
    have hz4:w4.heap[gz]? = some (.cells cur 29 (0,0)):=by
     exact (hg4.block gz (Array.getElem?_eq_some_iff.1 hzd).1 (own_other hod hzd)).trans hzd
    obtain ⟨a4,c4,rfl,ho4⟩:=own_appended hv4 hod.byte (eightI_byte z)
    rw [List.append_assoc,← HNX.out,Nat.add_assoc,show 8 * j+8=8 * (j+1) by omega] at ho4
    have HO4:Hid (_):=ho4
    have e8:(putI n).length+8 * j+8=(putI n).length+8 * (j+1):=by omega
    rw [e8]
    clear ho4 hv4 hg4 hod hzd
    go_wp2
    go_roundw
    case rel=>exact ⟨j+1,c4,a4,by omega,by go_num,rfl,HO4.out,hbr4,hz4⟩
    case measure=>simp [intOf]; omega
   ·obtain rfl:j=18+H:=by omega
    have hnl:¬ (18+(H:Int)<18+(H:Int)):=by omega
    have HOR:Hid (_):=hor
    clear hor
    obtain ⟨s0,s1,s2,s3⟩:=cells4 (HX6.out.kept hbr).s
    obtain ⟨r0,r1,r2,r3⟩:=cells4 (HX6.out.kept hbr).r
    obtain ⟨f0,f1,f2,f3⟩:=frozen4 (HX6.out.kept hbr).r
    have HBR:Hid (_=_):=(HX6.out.kept hbr).r
    go_upto_region 11 with fail
    go_region
    all_goals
     go_wp2
     try simp only [Exit.inBlock,Exit.then]
     have hB:Below w.heap.size w wr:=hb6.trans (hbr.mono hb6.size)
     have hlen:(putI n++flatL zs).length=(putI n).length+8 * (18+H):=by rw [List.length_append,flatL_len,HZL.out]
     have hO:=HOR.out
     rw [List.take_of_length_le (by rw [HZL.out]; exact Nat.le_refl _)] at hO
     have hO4:Own w.heap.size ((set4 wr (w.heap.size+1+1) (.int .i64 sc) (.int .u64 x) (.int .i64 h) (.int .i64 (n+1))).drew) ao ((putI n).length+8 * (18+H)) cc (putI n++flatL zs):=((hO.set4 hsz6 _ _ _ _).drew).mono hb6.size
     exact bodyPost_ret (results_sa rfl _ (w.heap.size+1+1) rfl _ rfl _ rfl _ _ _ _ _ (by rw [heap_drew]; exact heap_set4 HBR.out _ _ _ _)) rfl ⟨ao,cc,by rw [HT.out]; show _=Ending.returned (Value.tuple #[.slice ao (putI n++flatL zs).length cc,_,_]); rw [hlen]; rfl,by rw [HT.out]; show Own _ _ _ (putI n++flatL zs).length _ _; rw [hlen]; exact hO4,(below_set4 hB _ (by omega) _ _ _ _).drew⟩
open Go.RowKit
abbrev Sc4:=Int × Int × Int × Int
def scw (t:Sc4):Value:=.agg #[.int .i64 t.1,.int .u64 t.2.1,.int .i64 t.2.2.1,.int .i64 t.2.2.2]
def saV (sc x h n:Int)(ms:List Int):List Int × Sc4 × Int :=
 if secOk sc x h n then (if sc=1 then (sgG x ms,(sc,x,h,n),0) else ((saT x h n ms).1,(sc,x,h,(saT x h n ms).2.1),(saT x h n ms).2.2)) else ([],(0,0,0,0),1)
theorem implSignAny_any (sc x h n:Int)(am:Option Addr)(nn c:Nat)(ms:List Int)(w:World)(hx:U64 x)(hr:Row w am nn ms)(hn:nn≤1048576)(hc:am=none→c=0) :
  Calls Tryz.prog 24 #[scv sc x h n,.slice am nn c] w fun e w'=>∃ a cap,e=.returned (.tuple #[.slice a (saV sc x h n ms).1.length cap,scw (saV sc x h n ms).2.1,.int .i64 (saV sc x h n ms).2.2])∧Own w.heap.size w' a (saV sc x h n ms).1.length cap (saV sc x h n ms).1∧Below w.heap.size w w':=by
 obtain ⟨w1,hw1⟩:∃ w1,w1=(w.alloc (.cells #[.int .i64 sc,.int .u64 x,.int .i64 h,.int .i64 n] 39)).alloc (.cells #[.int .i64 0,.int .u64 0,.int .i64 0,.int .i64 0] 39):=⟨_,rfl⟩
 have hbb:Below w.heap.size w w1:=by rw [hw1]; exact two_below _ _ _
 have HB1:Hid (Bx2 w.heap.size sc x h n w1):=by
  show Bx2 _ _ _ _ _ _
  rw [hw1]
  exact ⟨(two_blocks w _ _).1,(two_blocks w _ _).2⟩
 have HW:Hid (_=_):=hw1
 have HR1:Hid (Row w1 am nn ms):=hr.kept hbb
 clear hw1 hr
 obtain ⟨T,hT⟩:∃ T,T=saV sc x h n ms:=⟨_,rfl⟩
 have HT0:Hid (_=_):=hT
 rw [← hT,scv]
 clear hT
 go_enter Tryz.func24,Tryz.ntmps24
 go_wp2_with fail
 rw [← HW.out]
 clear HW
 refine (secretScheme_any sc x h n _ hx).mono ?_
 rintro e w2 ⟨rfl,hb2⟩
 have HX2:Hid (_):=HB1.out.kept hb2
 have hB2:=keepT hbb hb2
 by_cases hk:secOk sc x h n
 ·rw [decide_eq_true hk]
  by_cases h1:sc=1
  ·have hg:grpP x h n:=hk.elim (fun a=>a.2) (fun a=>absurd a.1 (by omega))
   have HT:Hid (T=(sgG x ms,(sc,x,h,n),0)):=by show _=_; rw [HT0.out]; unfold saV; rw [if_pos hk,if_pos h1]
   have HI:Hid (ifv sc=.iface 166 (.agg #[])):=by show _=_; rw [h1]; rfl
   rw [HI.out]
   clear h1
   obtain ⟨s0,s1,s2,s3⟩:=cells4 HX2.out.s
   go_wp2_with fail
   refine (groupSign_any sc x h n am nn c ms _ hg.1 (HR1.out.kept hb2) hn hc).mono ?_
   rintro e w3 ⟨a3,c3,rfl,ho3,hb3⟩
   have hx3:=HX2.out.kept hb3
   obtain ⟨r0,r1,r2,r3⟩:=cells4 hx3.r
   obtain ⟨f0,f1,f2,f3⟩:=frozen4 hx3.r
   have HB3:Hid (_=_):=hx3.r
   have HO3:Hid (_):=ho3
   have hB3:=keepT hB2 hb3
   have hlt:w.heap.size+1<w2.heap.size:=(Array.getElem?_eq_some_iff.1 HX2.out.r).1
   clear s0 s1 s2 s3 hx3 ho3
   rw [scv]
   go_wp2
   try simp only [Exit.inBlock,Exit.then]
   exact bodyPost_ret (results_sa rfl _ (w.heap.size+1) rfl _ rfl _ rfl _ _ _ _ _ (heap_set4 HB3.out _ _ _ _)) rfl ⟨a3,c3,by rw [HT.out]; rfl,by rw [HT.out]; exact (HO3.out.set4 hlt _ _ _ _).mono hB2.size,below_set4 hB3 _ (by omega) _ _ _ _⟩
  ·obtain ⟨h2,hkk⟩:sc=2∧kP h n:=hk.elim (fun a=>absurd a.1 h1) (fun a=>a)
   have HT:Hid (T=((saT x h n ms).1,(sc,x,h,(saT x h n ms).2.1),(saT x h n ms).2.2)):=by show _=_; rw [HT0.out]; unfold saV; rw [if_pos hk,if_neg h1]
   have HI:Hid (ifv sc=.iface 167 (.agg #[])):=by show _=_; rw [h2]; rfl
   rw [HI.out]
   clear h1 h2
   obtain ⟨s0,s1,s2,s3⟩:=cells4 HX2.out.s
   go_wp2_with fail
   refine (treeSign_any sc x h n am nn c ms _ hx hkk (HR1.out.kept hb2) hn).mono ?_
   rintro e w3 ⟨a3,c3,rfl,ho3,hb3⟩
   obtain ⟨U,hU⟩:∃ U,U=saT x h n ms:=⟨_,rfl⟩
   rw [← hU] at HT ho3 ⊢
   clear hU
   have hx3:=HX2.out.kept hb3
   obtain ⟨r0,r1,r2,r3⟩:=cells4 hx3.r
   obtain ⟨f0,f1,f2,f3⟩:=frozen4 hx3.r
   have HB3:Hid (_=_):=hx3.r
   have HO3:Hid (_):=ho3
   have hB3:=keepT hB2 hb3
   have hlt:w.heap.size+1<w2.heap.size:=(Array.getElem?_eq_some_iff.1 HX2.out.r).1
   clear s0 s1 s2 s3 hx3 ho3
   rw [scv]
   go_wp2
   try simp only [Exit.inBlock,Exit.then]
   exact bodyPost_ret (results_sa rfl _ (w.heap.size+1) rfl _ rfl _ rfl _ _ _ _ _ (heap_set4 HB3.out _ _ _ _)) rfl ⟨a3,c3,by rw [HT.out]; rfl,by rw [HT.out]; exact (HO3.out.set4 hlt _ _ _ _).mono hB2.size,below_set4 hB3 _ (by omega) _ _ _ _⟩
 ·have HT:Hid (T=([],(0,0,0,0),1)):=by show _=_; rw [HT0.out]; unfold saV; rw [if_neg hk]
  rw [decide_eq_false hk]
  obtain ⟨iv,hiv⟩:∃ iv,iv=ifv sc:=⟨_,rfl⟩
  rw [← hiv]
  clear hiv
  obtain ⟨r0,r1,r2,r3⟩:=cells4 HX2.out.r
  obtain ⟨f0,f1,f2,f3⟩:=frozen4 HX2.out.r
  go_wp2
  try simp only [Exit.inBlock,Exit.then]
  exact bodyPost_ret (results_sa rfl _ (w.heap.size+1) rfl _ rfl _ rfl _ _ _ _ _ (heap_set4 HX2.out.r _ _ _ _)) rfl ⟨none,0,by rw [HT.out]; rfl,by rw [HT.out]; exact own_none _ _,below_set4 hB2 _ (by omega) _ _ _ _⟩
open Go.RowKit
theorem someName_any (a:Option Addr)(n c:Nat)(xs:List PT)(w:World)(h:Pts w a n xs)(hz:∀ k,k<n→(xs.getD k default).val.size≤1048576) :
  Calls Tryz.prog 59 #[nmv a n c] w (Says (calledP xs) w):=by
 have HL:Hid (xs.length=n):=h.len
 have hn:=h.max
 obtain ⟨w0,hw0⟩:∃ w0,w0=w.alloc (.cells #[.slice a n c] 35):=⟨_,rfl⟩
 have hb0:Below w.heap.size w w0:=by rw [hw0]; exact (Below.refl _ _).alloc (Nat.le_refl _) _
 have hh0:w0.heap[w.heap.size]? = some (.cells #[.slice a n c] 35):=by rw [hw0]; exact heap_alloc_new w _
 have hl0:w.heap.size<w0.heap.size:=(Array.getElem?_eq_some_iff.1 hh0).1
 have HK:Hid (Pts w0 a n xs):=h.kept hb0
 have HZ:Hid (_):=hz
 clear h hz
 unfold nmv
 go_enter Tryz.func59,Tryz.ntmps59
 go_wp2_with fail
 rw [← hw0]
 clear hw0
 refine (implNameOk_any a n c xs _ HK.out HZ.out).mono ?_
 rintro e w1 ⟨b,rfl,hb,hb1⟩
 have hc:w1.cell? ⟨w.heap.size,0,none⟩=some (.slice a n c):=(cell_of_row _ _ 0 _ 35 (0,0) ((hb1.block _ hl0).trans hh0)).trans rfl
 have HB:Hid (Below w.heap.size w w1):=hb0.trans (hb1.mono hb0.size)
 clear hb0 hb1 hh0
 rcases b with _ | _
 ·have HN:Hid (¬ calledP xs):=fun q=>by have:=hb.out.2 q.1; simp at this
  clear hb
  go_wp2
  go_ret
  exact says_f HN.out HB.out
 ·have HN:Hid (nameP xs):=hb.out.1 rfl
  clear hb
  by_cases h0:n=0
  ·subst h0
   have HE:Hid (¬ calledP xs):=fun q=>q.2 (List.eq_nil_of_length_eq_zero HL.out)
   go_wp2
   go_ret
   exact says_f HE.out HB.out
  ·have hp:(0:Int)<(n:Int):=by omega
   have HE:Hid (calledP xs):=⟨HN.out,fun e=>h0 (by rw [← HL.out,e]; rfl)⟩
   go_wp2
   go_ret
   exact ⟨decide (0<n),rfl,⟨fun _=>HE.out,fun _=>decide_eq_true (by omega)⟩,HB.out⟩
theorem isTime_any (t:Int)(w:World):Calls Tryz.prog 101 #[.int .i64 t] w fun e w'=>e=.returned (.bool (decide (0≤t∧t≤253402300799)))∧w=w':=by
 go_enter Tryz.func101,Tryz.ntmps101
 go_wp2_with fail
 refine (inBounds_any t 0 253402300799 _).mono ?_
 rintro e w1 ⟨rfl,rfl⟩
 obtain ⟨v,hv⟩:∃ v,decide (0≤t∧t≤253402300799)=v:=⟨_,rfl⟩
 rw [hv]
 have HV:Hid (decide (0≤t∧t≤253402300799)=v):=hv
 clear hv
 go_wp2
 go_ret
 exact ⟨by rw [HV.out]; rfl,rfl⟩
theorem spanOk_any (s t:Int)(w:World):Calls Tryz.prog 61 #[.int .i64 s,.int .i64 t] w fun e w'=>e=.returned (.bool (decide ((0≤s∧s≤253402300799)∧(0≤t∧t≤253402300799)∧s≤t)))∧w=w':=by
 by_cases h1:0≤s∧s≤253402300799
 case neg =>
  have HN:Hid (decide ((0≤s∧s≤253402300799)∧(0≤t∧t≤253402300799)∧s≤t)=false):=decide_eq_false (fun q=>h1 q.1)
  go_enter Tryz.func61,Tryz.ntmps61
  go_wp2_with fail
  refine (isTime_any s _).mono ?_
  rintro e w9 ⟨rfl,hw9⟩
  subst hw9
  rw [decide_eq_false h1]
  clear h1
  go_wp2
  go_ret
  exact ⟨by rw [HN.out]; rfl,rfl⟩
 by_cases h2:0≤t∧t≤253402300799
 case neg =>
  have HN:Hid (decide ((0≤s∧s≤253402300799)∧(0≤t∧t≤253402300799)∧s≤t)=false):=decide_eq_false (fun q=>h2 q.2.1)
  go_enter Tryz.func61,Tryz.ntmps61
  go_wp2_with fail
  refine (isTime_any s _).mono ?_
  rintro e w9 ⟨rfl,hw9⟩
  subst hw9
  rw [decide_eq_true h1]
  clear h1
  go_wp2_with fail
  refine (isTime_any t _).mono ?_
  rintro e w9 ⟨rfl,hw9⟩
  subst hw9
  rw [decide_eq_false h2]
  clear h2
  go_wp2
  go_ret
  exact ⟨by rw [HN.out]; rfl,rfl⟩
 have HN:Hid (decide ((0≤s∧s≤253402300799)∧(0≤t∧t≤253402300799)∧s≤t)=decide (s≤t)):=decide_eq_decide.2 ⟨fun q=>q.2.2,fun q=>⟨h1,h2,q⟩⟩
 go_enter Tryz.func61,Tryz.ntmps61
 go_wp2_with fail
 refine (isTime_any s _).mono ?_
 rintro e w9 ⟨rfl,hw9⟩
 subst hw9
 rw [decide_eq_true h1]
 clear h1
 go_wp2_with fail
 refine (isTime_any t _).mono ?_
 rintro e w9 ⟨rfl,hw9⟩
 subst hw9
 rw [decide_eq_true h2]
 clear h2
 go_wp2
 go_ret
 exact ⟨by rw [HN.out]; rfl,rfl⟩
theorem isFull_any (a1:Option Addr)(n1 c1:Nat)(a2:Option Addr)(n2 c2:Nat)(a3:Option Addr)(n3 c3:Nat)(x:CP)(w:World):Calls Tryz.prog 138 #[crv a1 n1 c1 a2 n2 c2 a3 n3 c3 x] w fun e w'=>e=.returned (.bool (x.base == -1))∧Below w.heap.size w w':=by
 unfold crv
 go_enter Tryz.func138,Tryz.ntmps138
 go_wp2
 go_ret
 exact ⟨rfl,(Below.refl _ _).alloc (Nat.le_refl _) _⟩
theorem namesIssuer_any (a1:Option Addr)(n1 c1:Nat)(a2:Option Addr)(n2 c2:Nat)(a3:Option Addr)(n3 c3:Nat)(x:CP)(an:Option Addr)(nn cn:Nat)(y:GP)(w:World)(h:Pts w an nn y.parts)(hz:∀ k,k<nn→(y.parts.getD k default).val.size≤1048576) :
  Calls Tryz.prog 125 #[crv a1 n1 c1 a2 n2 c2 a3 n3 c3 x,gov an nn cn y] w (Says ((x.ind=true→calledP y.parts)∧(x.ind=false→y.parts = [])) w):=by
 unfold crv gov
 obtain ⟨W0,hW0⟩:∃ W0,W0=(w.alloc (.cells #[.slice a1 n1 c1,.int .i64 x.num,.int .i64 x.base,.int .i64 x.tm,.int .i64 x.next,.int .i64 x.scope,.bool x.ind,.slice a2 n2 c2,.slice a3 n3 c3] 38)).alloc (.cells #[.slice an nn cn,.int .i64 y.ser,.int .i64 y.tm,.int .i64 y.rs] 74):=⟨_,rfl⟩
 have hB0:Below w.heap.size w W0:=by rw [hW0]; exact two_below _ _ _
 have b0:=two_blocks w (.cells #[.slice a1 n1 c1,.int .i64 x.num,.int .i64 x.base,.int .i64 x.tm,.int .i64 x.next,.int .i64 x.scope,.bool x.ind,.slice a2 n2 c2,.slice a3 n3 c3] 38) (.cells #[.slice an nn cn,.int .i64 y.ser,.int .i64 y.tm,.int .i64 y.rs] 74)
 rw [← hW0] at b0
 have HP:Hid (Pts W0 an nn y.parts):=h.kept hB0
 have HZ:Hid (∀ k,k<nn→(y.parts.getD k default).val.size≤1048576):=hz
 have HL:Hid (y.parts.length=nn):=h.len
 have p6:W0.cell? ⟨w.heap.size,6,none⟩=some (.bool x.ind):=qk b0.1 rfl
 have e0:W0.cell? ⟨w.heap.size+1,0,none⟩=some (.slice an nn cn):=qk b0.2 rfl
 have HW:Hid (_=_):=hW0
 clear hW0 b0 h hz
 go_enter Tryz.func125,Tryz.ntmps125
 go_upto_region 1 with fail
 rw [← HW.out]
 clear HW
 by_cases hi:x.ind=true
 ·rw [hi] at p6
  have HI:Hid (x.ind=true):=hi
  clear hi
  go_wp2_with fail
  refine (someName_any an nn cn y.parts _ HP.out HZ.out).mono ?_
  rintro e w1 ⟨v1,rfl,hv1,hb1⟩
  have HV:Hid _:=hv1
  clear hv1 p6 e0
  go_wp2
  go_ret
  exact ⟨v1,rfl,⟨fun q=>⟨fun _=>HV.out.1 q,fun e=>by rw [HI.out] at e; cases e⟩,fun q=>HV.out.2 (q.1 HI.out)⟩,hB0.trans (hb1.mono hB0.size)⟩
 ·replace hi:x.ind=false:=by simpa using hi
  rw [hi] at p6
  have HI:Hid (x.ind=false):=hi
  clear hi
  by_cases h0:nn=0
  ·subst h0
   have HT:Hid ((x.ind=true→calledP y.parts)∧(x.ind=false→y.parts = [])):=⟨fun e=>(by rw [HI.out] at e; cases e),fun _=>List.eq_nil_of_length_eq_zero HL.out⟩
   go_wp2
   go_ret
   exact says_t HT.out hB0
  ·have hne:((nn:Int) == 0)=false:=by simp; omega
   have HT:Hid (¬ ((x.ind=true→calledP y.parts)∧(x.ind=false→y.parts = []))):=fun q=>h0 (by rw [← HL.out,q.2 HI.out]; rfl)
   clear h0
   go_wp2
   go_ret
   exact says_f HT.out hB0
open Go.RowKit Go.Shelf
def fb1 (p:PT):List UInt8:=Lib.itoa p.attr++61::((FS p.val).data.toList++[10])
def fbs:List PT→List UInt8
 | []=>[]
 | p::ps=>fb1 p++fbs ps
theorem fbs_append:∀ (xs ys:List PT),fbs (xs++ys)=fbs xs++fbs ys
 | [],ys=>rfl
 | x::xs,ys=>by rw [List.cons_append,fbs,fbs,fbs_append xs ys,List.append_assoc]
theorem fbs_succ (xs:List PT)(k:Nat)(hk:k<xs.length):fbs (xs.take (k+1))=fbs (xs.take k)++fb1 (xs.getD k default):=by
 rw [List.take_succ_eq_append_getElem hk,fbs_append,List.getD_eq_getElem?_getD,List.getElem?_eq_getElem hk]
 simp [fbs]
def nat8 (l:List UInt8):List Int:=l.map fun b=>(b.toNat:Int)
theorem nat8_inj:∀ {l m:List UInt8},nat8 l=nat8 m→l=m
 | [],[],_=>rfl
 | [],y::m,h=>by simp [nat8] at h
 | x::l,[],h=>by simp [nat8] at h
 | x::l,y::m,h=>by
  simp only [nat8,List.map_cons,List.cons.injEq] at h
  have e:x.toNat=y.toNat:=by omega
  rw [UInt8.toNat_inj.1 e,nat8_inj (l:=l) (m:=m) h.2]
theorem nat8_FS (x:PT)(h:partP x):nat8 (FS x.val).data.toList=foldL x.val:=by
 unfold FS nat8
 rw [strOfNums_data,List.map_map]
 refine (List.map_congr_left (fun b hb=>?_)).trans (List.map_id _)
 have:=foldL_rng x h b hb
 simp only [Function.comp_apply,UInt8.toNat_ofNat',id_eq]
 omega
theorem nat8_fbs:∀ (xs:List PT),(∀ p∈xs,partP p)→nat8 (fbs xs)=ft xs
 | [],_=>rfl
 | x::xs,h=>by
  have h1:=nat8_fbs xs (fun p hp=>h p (List.Mem.tail _ hp))
  have h2:=nat8_FS x (h x (List.Mem.head _))
  rw [ft_cons,← h1,← h2]
  simp [fbs,fb1,nat8,dg]
def ftS (xs:List PT):ByteArray:=⟨(fbs xs).toArray⟩
theorem ftS_same {xs ys:List PT}(hx:nameP xs)(hy:nameP ys):ftS xs=ftS ys↔sameP xs ys:=by
 rw [← ft_same hx hy,← nat8_fbs xs (nameP_all hx),← nat8_fbs ys (nameP_all hy)]
 constructor
 ·intro h
  have h2:(fbs xs).toArray=(fbs ys).toArray:=congrArg ByteArray.data h
  rw [show fbs xs=fbs ys by simpa using congrArg Array.toList h2]
 ·intro h
  unfold ftS
  rw [nat8_inj h]
theorem fb1_len (p:PT)(h:partP p):(fb1 p).length≤200:=by
 have h1:=Lib.itoa_length_le p.attr (by have:=h.1.1; omega) (by have:=h.1.2; omega)
 have h2:(FS p.val).data.toList.length≤120:=by
  unfold FS
  rw [strOfNums_data,List.length_map]
  have:=fo_len p.val p.val.size
  have:=h.2.1
  unfold foldL
  omega
 simp only [fb1,List.length_append,List.length_cons,List.length_nil]
 omega
theorem fbs_len:∀ (xs:List PT),(∀ p∈xs,partP p)→(fbs xs).length≤200 * xs.length
 | [],_=>by simp [fbs]
 | x::xs,h=>by
  have h1:=fbs_len xs (fun p hp=>h p (List.Mem.tail _ hp))
  have h2:=fb1_len x (h x (List.Mem.head _))
  simp only [fbs,List.length_append,List.length_cons]
  omega
theorem Tryz.infoB1:(Tryz.prog.info? 5).map (fun i=>(i.zero,i.size,i.bytes))=some (some (.int .u8 0),1,1):=by kernel_rfl
theorem box_kept {w w':World}{B e s n g t:Nat}{v:Value}{xs:List Value}{cs:Array Value}{fr:Nat × Nat}(h:w.ownsRow B e s v n xs)(hg:w.grownBy w' v.ownBlock)(hb:w.heap[g]? = some (.cells cs t fr))(hne:t≠e):w'.heap[g]? = some (.cells cs t fr):=by
 refine (hg.block g (Array.getElem?_eq_some_iff.1 hb).1 (fun e2=>?_)).trans hb
 rcases h.2 with ⟨rfl,_⟩ | ⟨g',cap,cur',rfl,_,hh,_⟩
 ·simp [Value.ownBlock] at e2
 ·simp only [Value.ownBlock,Option.some.injEq] at e2
  subst e2
  rw [hh] at hb
  simp only [Option.some.injEq,Obj.cells.injEq] at hb
  exact hne hb.2.1.symm
set_option maxRecDepth 100000 in
theorem foldedText_any (a : Option Addr) (n c : Nat) (xs : List PT) (w : World) (htab : Lib.TabIs Tryz.prog w "internal/strconv.uint64pow10" .u64 Lib.pow10Tab) (h : Pts w a n xs) (hp : nameP xs) :
  Calls Tryz.prog 139 #[nmv a n c] w fun e w'=>e=.returned (.string (ftS xs))∧Below w.heap.size w w':=by
 obtain ⟨i0,hi,hz0,hz1,hz2⟩:=info_parts Tryz.infoB1
 have HI:Hid (_∧_∧_∧_):=⟨hi,hz0,hz1,hz2⟩
 have hT:Hid (_):=Lib.tabBelow_of_tabIs htab
 have HL:Hid (xs.length=n):=h.len
 have hn8:n≤8:=by rw [← h.len]; exact hp.1
 have HP:Hid (∀ p∈xs,partP p):=nameP_all hp
 obtain ⟨W0,hW0⟩:∃ W0,W0=w.alloc (.cells #[.slice a n c] 35):=⟨_,rfl⟩
 have hB0:Below w.heap.size w W0:=by rw [hW0]; exact (Below.refl _ _).alloc (Nat.le_refl _) _
 have hh0:W0.heap[w.heap.size]? = some (.cells #[.slice a n c] 35):=by rw [hW0]; exact heap_alloc_new w _
 have q0:W0.cell? ⟨w.heap.size,0,none⟩=some (.slice a n c):=qk hh0 rfl
 have HK:Hid (∀ W,Below w.heap.size w W→Pts W a n xs):=fun W hW=>h.kept hW
 have HW:Hid (_=_):=hW0
 clear h hp hW0 hh0 hi hz0 hz1 hz2 htab
 unfold nmv
 go_enter Tryz.func139,Tryz.ntmps139
 go_upto_region 1 with fail
 rw [← HW.out]
 clear HW
 go_wp2
 clear q0
 go_loopw [3,9] (fun o i wr=>∃ k:Nat,k≤n∧i=.int .i64 k∧wr.ownsRow w.heap.size 5 1 o (fbs (xs.take k)).length (Lib.byteCells (fbs (xs.take k)))∧Below w.heap.size w wr) (fun _ i _=>n - (intOf i).toNat)
 case atStart=>exact ⟨0,Nat.zero_le _,rfl,World.ownsRow_nil _ _ _ _,hB0⟩
 case round =>
  obtain ⟨k,hk,rfl,how,hbr⟩:=hrel
  clear hB0
  by_cases hkn:k<n
  ·obtain ⟨b,off,rfl,hlb,hc,_⟩:=(HK.out wr hbr).get k hkn
   obtain ⟨x,hx⟩:∃ x,x=xs.getD k default:=⟨_,rfl⟩
   rw [← hx] at hc
   have hmem:xs.getD k default∈xs:=by
    rw [List.getD_eq_getElem?_getD,List.getElem?_eq_getElem (by rw [HL.out]; exact hkn)]
    exact List.getElem_mem _
   have HPX:Hid (partP x):=by show partP x; rw [hx]; exact HP.out _ hmem
   have HSU:Hid (fbs (xs.take (k+1))=fbs (xs.take k)++fb1 x):=by show _=_; rw [hx]; exact fbs_succ xs k (by rw [HL.out]; exact hkn)
   have hlen:(fbs (xs.take k)).length≤1600:=by
    have h1:=fbs_len (xs.take k) (fun p hp=>HP.out p (List.mem_of_mem_take hp))
    rw [List.length_take] at h1
    omega
   obtain ⟨L,hL⟩:∃ L,L=fbs (xs.take k):=⟨_,rfl⟩
   rw [← hL] at how hlen HSU
   clear hL hmem hx
   obtain ⟨c0,c1⟩:=hc
   obtain ⟨W1,hW1⟩:∃ W1,W1=wr.alloc (.cells #[.int .i64 x.attr,.string x.val] 132):=⟨_,rfl⟩
   have hB1:Below w.heap.size w W1:=by rw [hW1]; exact hbr.alloc hbr.size _
   have HY1:Hid (W1.heap[wr.heap.size]? = some (.cells #[.int .i64 x.attr,.string x.val] 132)):=by show _=_; rw [hW1]; exact heap_alloc_new wr _
   have how1:W1.ownsRow w.heap.size 5 1 u3 L.length (Lib.byteCells L):=by rw [hW1]; exact how.alloc _
   have d0:W1.cell? ⟨wr.heap.size,0,none⟩=some (.int .i64 x.attr):=qk HY1.out rfl
   have hkni:(k:Int)<(n:Int):=by omega
   have HW1:Hid (_=_):=hW1
   have hs1:=hB1.size
   clear hW1 how
   go_upto_region 5 with fail
   rw [← HW1.out]
   clear HW1 c0 c1
   go_wp2_with fail
   refine (Tryz.strconv_AppendInt_10 w.heap.size L.length x.attr (by have:=HPX.out.1.1; omega) (by have:=HPX.out.1.2; omega) u3 _ _ how1 hs1 (by omega) (Lib.TabBelow.on hT.out hB1)).mono ?_
   rintro e w2 ⟨v2,rfl,how2,hb2,hk2⟩
   have la:=Lib.itoa_length_le x.attr (by have:=HPX.out.1.1; omega) (by have:=HPX.out.1.2; omega)
   have hB2:Below w.heap.size w w2:=hB1.trans hb2
   have hs2:=hB2.size
   have HY2:Hid (w2.heap[wr.heap.size]? = some (.cells #[.int .i64 x.attr,.string x.val] 132)):=hk2 _ _ HY1.out (by simp) (fun c fz e=>by simp at e)
   clear d0 hk2 hb2 how1 hB1 HY1 hs1
   go_wp2_with (at_builtin; refine wpList_append_own _ rfl _ _ 26 rfl w.heap.size 5 i0 (.int .u8 0) 1 1 Tryz.underlying26 HI.out.1 HI.out.2.1 HI.out.2.2.1 HI.out.2.2.2 rfl (by decide) _ _ _ rfl (how2.alloc _) ⟨w2.heap.size,0,none⟩ 1 1 [Value.int .u8 61] rfl rfl (by intro j u' hj; match j,hj with | 0,hj=>simp at hj; subst hj; simp [Addr.add]) (by intro u' hu'; simp at hu'; subst hu'; rfl) (by unfold maxLen; omega) (by omega) (by simp; omega) ?_)
   intro v3 w3 how3 hg3 _
   have hB3:Below w.heap.size w w3:=(hB2.alloc hB2.size _).grown hg3 (by simp; omega) (fun k hk=>(how2.lt k hk).1)
   have HY3:Hid (w3.heap[wr.heap.size]? = some (.cells #[.int .i64 x.attr,.string x.val] 132)):=box_kept (how2.alloc _) hg3 ((((Below.refl w2.heap.size w2).alloc (Nat.le_refl _) _).block _ (Array.getElem?_eq_some_iff.1 HY2.out).1).trans HY2.out) (by decide)
   have hs3:=hB3.size
   have e1:w3.cell? ⟨wr.heap.size,1,none⟩=some (.string x.val):=qk HY3.out rfl
   clear hg3 how2 hB2 HY2 hs2
   go_wp2_with fail
   refine (implFold_any x.val _ (by have:=HPX.out.2.1; omega)).mono ?_
   rintro e w4 ⟨rfl,hb4⟩
   have hB4:Below w.heap.size w w4:=hB3.trans (hb4.mono hs3)
   have how4:=ownsRow_below how3 hb4
   have hs4:=hB4.size
   have lf:(FS x.val).size≤120:=by
    have h1:=fo_len x.val x.val.size
    have h2:=HPX.out.2.1
    unfold FS
    rw [strOfNums_size]
    unfold foldL
    omega
   obtain ⟨S,hS⟩:∃ S,S=FS x.val:=⟨_,rfl⟩
   have hS2:strOfNums (foldL x.val)=S:=hS.symm
   rw [hS2]
   rw [← hS] at lf
   have HS:Hid (S=FS x.val):=hS
   clear e1 hb4 how3 hB3 HY3 hs3 hS hS2
   go_wp2_with (at_builtin; refine Lib.wpList_append_own_string _ rfl _ _ 26 9 rfl w.heap.size 5 i0 Tryz.underlying26 Tryz.underlying9 HI.out.1 HI.out.2.1 HI.out.2.2.1 HI.out.2.2.2 _ _ _ rfl how4 S rfl (by unfold maxLen; omega) (by omega) (by omega) ?_)
   intro v5 w5 how5 hg5 _
   have hB5:Below w.heap.size w w5:=hB4.grown hg5 hs4 (fun k hk=>(how4.lt k hk).1)
   have hs5:=hB5.size
   clear hg5 how4 hB4 hs4
   go_wp2_with (at_builtin; refine wpList_append_own _ rfl _ _ 26 rfl w.heap.size 5 i0 (.int .u8 0) 1 1 Tryz.underlying26 HI.out.1 HI.out.2.1 HI.out.2.2.1 HI.out.2.2.2 rfl (by decide) _ _ _ rfl (how5.alloc _) ⟨w5.heap.size,0,none⟩ 1 1 [Value.int .u8 10] rfl rfl (by intro j u' hj; match j,hj with | 0,hj=>simp at hj; subst hj; simp [Addr.add]) (by intro u' hu'; simp at hu'; subst hu'; rfl) (by unfold maxLen; omega) (by omega) (by simp; omega) ?_)
   intro v6 w6 how6 hg6 _
   have hB6:Below w.heap.size w w6:=(hB5.alloc hB5.size _).grown hg6 (by simp; omega) (fun k hk=>(how5.lt k hk).1)
   have HF:Hid (w6.ownsRow w.heap.size 5 1 v6 (fbs (xs.take (k+1))).length (Lib.byteCells (fbs (xs.take (k+1))))):=by
    show w6.ownsRow _ _ _ _ _ _
    rw [HSU.out]
    have eN:(L++fb1 x).length=L.length+(Lib.itoa x.attr).length+1+S.size+1:=by
     simp only [fb1,List.length_append,List.length_cons,List.length_nil,Array.length_toList,← HS.out]
     show _+(_+(S.data.size+1+1))=_+S.data.size+1
     omega
    have eL:Lib.byteCells (L++fb1 x)=Lib.byteCells L++(Lib.byteCells (Lib.itoa x.attr)++Value.int .u8 61::(Lib.strCells S++[Value.int .u8 10])):=by
     simp [fb1,Lib.byteCells,Lib.strCells,← HS.out]
    rw [eN,eL]
    exact how6
   clear how6 how5 hg6
   go_wp2
   go_roundw
   case rel=>exact ⟨k+1,by omega,by go_num,HF.out,hB6⟩
   case measure=>simp [intOf]; omega
  ·have hkn':k=n:=by omega
   subst hkn'
   have hni:¬ ((k:Int)<(k:Int)):=by omega
   have hall:xs.take k=xs:=List.take_of_length_le (by rw [HL.out]; exact Nat.le_refl _)
   rw [hall] at how
   clear hall
   rcases how.2 with ⟨rfl,h0⟩ | ⟨g,cap,cur,rfl,_,_,_,_,_,_⟩
   ·have HE:Hid (ftS xs = { data:=#[] }):=by
     show _=_
     unfold ftS
     rw [List.eq_nil_of_length_eq_zero h0]
    have hcv:=convert_own (Own.mk (World.ownsRow_nil wr w.heap.size 5 1) (by simp):Own w.heap.size wr none 0 0 [])
    clear how h0
    go_wp2
    go_ret
    exact ⟨by rw [HE.out]; rfl,hbr⟩
   ·obtain ⟨l,hl⟩:∃ l,l=fbs xs:=⟨_,rfl⟩
    rw [← hl] at how
    have HLL:Hid (l=fbs xs):=hl
    have hcv:=run_convert_bytes_back (P:=Tryz.prog) wr 26 9 5 ⟨g,0,none⟩ cap l Tryz.underlying26 Tryz.underlying5 Tryz.underlying9 (fun j hj=>how.cells (g:=g) rfl j _ (by simp [Lib.byteCells,hj]))
    rw [← hl]
    clear hl how
    go_wp2
    go_ret
    exact ⟨by unfold ftS; rw [← HLL.out]; rfl,hbr⟩
end Go.Proofs.YtnmplldhdfingaaGreatDoor
