import Derived.Test.YtnmplldhdfingaaGreatDoorFG27
set_option maxRecDepth 10000
set_option maxHeartbeats 8000000
set_option linter.unusedVariables false
namespace Go.Proofs.YtnmplldhdfingaaGreatDoor
open Go.RowKit
theorem flatL_cat (xs ys:List Int):flatL (xs++ys)=flatL xs++flatL ys:=by simp [flatL]
theorem set4_size (w:World)(g:Nat)(v0 v1 v2 v3:Value):(set4 w g v0 v1 v2 v3).heap.size=w.heap.size:=by simp [set4]
theorem own_zero' (B:Nat)(w:World)(g:Nat)(hg:w.heap.size=g)(h:B≤w.heap.size):Own B (w.alloc (.cells #[] 5)) (some ⟨g,0,none⟩) 0 0 []:=by
 subst hg
 exact ⟨World.ownsRow_lit w #[] 0 h (Nat.zero_le _) rfl,by simp⟩
theorem specSignAny_walk (HSPEC:∀ (seed h next:Int) (am:Option Addr) (n c:Nat) (bs:List Int) (w:World),U64 seed→Row w am n bs→n≤1000000000000→Calls Tryz.prog 47 #[tkv seed h next,.slice am n c] w fun e w'=>∃ v,e=.returned v∧SgR seed h next bs w.heap.size w' v∧Below w.heap.size w w')
  (sc x h n:Int) (am:Option Addr) (nn c:Nat) (ms:List Int) (w:World) (hx:U64 x) (hr:Row w am nn ms) (hn:nn≤1048576) (hc:am=none→c=0) :
  Calls Tryz.prog 18 #[scv sc x h n,.slice am nn c] w fun e w'=>∃ a cap,e=.returned (.tuple #[.slice a (saV sc x h n ms).1.length cap,scw (saV sc x h n ms).2.1,.int .i64 (saV sc x h n ms).2.2])∧Own w.heap.size w' a (saV sc x h n ms).1.length cap (saV sc x h n ms).1∧Below w.heap.size w w':=by
 obtain ⟨i0,hi,hz0,hz1,hz2⟩:=info_parts Tryz.info5
 obtain ⟨w1,hw1⟩:∃ w1,w1=(w.alloc (.cells #[.int .i64 sc,.int .u64 x,.int .i64 h,.int .i64 n] 39)).alloc (.cells #[.int .i64 0,.int .u64 0,.int .i64 0,.int .i64 0] 39):=⟨_,rfl⟩
 have hbb:Below w.heap.size w w1:=by rw [hw1]; exact two_below _ _ _
 have HB1:Hid (Bx2 w.heap.size sc x h n w1):=by
  show Bx2 _ _ _ _ _ _
  rw [hw1]
  exact ⟨(two_blocks w _ _).1,(two_blocks w _ _).2⟩
 have HW:Hid (_=_):=hw1
 have HR1:Hid (Row w1 am nn ms):=hr.kept hbb
 have HS:Hid (_):=HSPEC
 clear hw1 hr HSPEC
 obtain ⟨T,hT⟩:∃ T,T=saV sc x h n ms:=⟨_,rfl⟩
 have HT0:Hid (_=_):=hT
 rw [← hT,scv]
 clear hT
 go_enter Tryz.func18,Tryz.ntmps18
 go_wp2_with fail
 rw [← HW.out]
 clear HW
 refine (l8SecretOk_any sc x h n _ hx).mono ?_
 rintro e w2 ⟨rfl,hb2⟩
 have HX2:Hid (_):=HB1.out.kept hb2
 have hB2:=keepT hbb hb2
 have hl2:w.heap.size+1<w2.heap.size:=(Array.getElem?_eq_some_iff.1 HX2.out.r).1
 by_cases hk:secOk sc x h n
 ·rw [decide_eq_true hk]
  by_cases h1:sc=1
  ·have hg:grpP x h n:=hk.elim (fun a=>a.2) (fun a=>absurd a.1 (by omega))
   have HT:Hid (T=(sgG x ms,(sc,x,h,n),0)):=by show _=_; rw [HT0.out]; unfold saV; rw [if_pos hk,if_pos h1]
   have z1:(sc == 1)=true:=beq_iff_eq.2 h1
   clear h1
   have hs:secP x:=hg.1
   have hx0:=hs.1
   have hx1:=hs.2
   obtain ⟨E,hE⟩:∃ E,E=(signR x ms).1.1:=⟨_,rfl⟩
   obtain ⟨S,hS⟩:∃ S,S=(signR x ms).1.2:=⟨_,rfl⟩
   have hEb:E≤9223372036854775807:=by rw [hE]; unfold signR; rw [if_pos hs]; exact Int.le_trans (chalN_bd _ _ _).2 (by decide)
   have hSb:S≤9223372036854775807:=by rw [hS]; unfold signR; rw [if_pos hs]; show (nonN x ms+sigE x ms * x) % 500000003≤_; omega
   have hS0:0≤S:=by rw [hS]; unfold signR; rw [if_pos hs]; show 0≤(nonN x ms+sigE x ms * x) % 500000003; omega
   have hSl:0<(putI S).length:=by unfold putI; rw [if_neg (by omega),putN,putL_len]; exact (cnt_ok _).pos
   have hEl:=putI_len E hEb
   have hSm:=putI_len S hSb
   have HG:Hid (sgG x ms=putI E++putI S):=by show _=_; unfold sgG; rw [← hE,← hS]
   rw [HG.out] at HT
   obtain ⟨OK,hOK⟩:∃ OK,OK=(signR x ms).2:=⟨_,rfl⟩
   have HSG:Hid ((signR x ms)=((E,S),OK)):=by show _=_; rw [hE,hS,hOK]
   clear hE hS hOK
   obtain ⟨s0,s1,s2,s3⟩:=cells4 HX2.out.s
   go_wp2_with fail
   refine (specSign_any x am nn c ms _ (HR1.out.kept hb2) hn hc).mono ?_
   rintro e wa ⟨rfl,hba⟩
   rw [HSG.out,sigv]
   obtain ⟨w3,hw3⟩:∃ w3,w3=wa.alloc (.cells #[.int .i64 E,.int .i64 S] 79):=⟨_,rfl⟩
   have hb3:Below wa.heap.size wa w3:=by rw [hw3]; exact (Below.refl _ _).alloc (Nat.le_refl _) _
   have HS3:Hid (w3.heap[wa.heap.size]? = some (.cells #[.int .i64 E,.int .i64 S] 79)):=by show _=_; rw [hw3]; exact heap_alloc_new wa _
   have hb23:=keepT hba hb3
   have HW3:Hid (_=_):=hw3
   clear hw3 s0 s1 s2 s3
   have hwas:w.heap.size+1<wa.heap.size:=Nat.lt_of_lt_of_le hl2 hba.size
   have hw3s:w.heap.size+1<w3.heap.size:=Nat.lt_of_lt_of_le hwas hb3.size
   have HX:∀ W,Below w3.heap.size w3 W→W.cell? ⟨wa.heap.size,0,none⟩=some (.int .i64 E)∧W.cell? ⟨wa.heap.size,1,none⟩=some (.int .i64 S)∧W.cell? ⟨w.heap.size,0,none⟩=some (.int .i64 sc)∧W.cell? ⟨w.heap.size,1,none⟩=some (.int .u64 x)∧W.cell? ⟨w.heap.size,2,none⟩=some (.int .i64 h)∧W.cell? ⟨w.heap.size,3,none⟩=some (.int .i64 n):=by
    intro W hW
    have e:=(hW.block _ (Array.getElem?_eq_some_iff.1 HS3.out).1).trans HS3.out
    exact ⟨(cell_of_row _ _ 0 _ 79 (0,0) e).trans rfl,(cell_of_row _ _ 1 _ 79 (0,0) e).trans rfl,cells4 (HX2.out.kept (keepT hb23 hW)).s⟩
   have HZ:∀ W,Below w3.heap.size w3 W→∀ v0 v1 v2 v3,(set4 W (w.heap.size+1) v0 v1 v2 v3).cell? ⟨wa.heap.size,0,none⟩=some (.int .i64 E)∧(set4 W (w.heap.size+1) v0 v1 v2 v3).cell? ⟨wa.heap.size,1,none⟩=some (.int .i64 S)∧(set4 W (w.heap.size+1) v0 v1 v2 v3).cell? ⟨w.heap.size,0,none⟩=some (.int .i64 sc)∧(set4 W (w.heap.size+1) v0 v1 v2 v3).cell? ⟨w.heap.size,1,none⟩=some (.int .u64 x)∧(set4 W (w.heap.size+1) v0 v1 v2 v3).cell? ⟨w.heap.size,2,none⟩=some (.int .i64 h)∧(set4 W (w.heap.size+1) v0 v1 v2 v3).cell? ⟨w.heap.size,3,none⟩=some (.int .i64 n):=by
    intro W hW v0 v1 v2 v3
    obtain ⟨e0,e1,e2,e3,e4,e5⟩:=HX W hW
    exact ⟨(set4_cell W _ _ _ (by omega) _ _ _ _).trans e0,(set4_cell W _ _ _ (by omega) _ _ _ _).trans e1,(set4_cell W _ _ _ (by omega) _ _ _ _).trans e2,(set4_cell W _ _ _ (by omega) _ _ _ _).trans e3,(set4_cell W _ _ _ (by omega) _ _ _ _).trans e4,(set4_cell W _ _ _ (by omega) _ _ _ _).trans e5⟩
   have HY:Hid (∀ W,Below w3.heap.size w3 W→Bx2 w.heap.size sc x h n W):=fun W hW=>HX2.out.kept (keepT hb23 hW)
   go_upto_region 5 with fail
   rw [← HW3.out]
   clear HW3
   have hc3:Below w3.heap.size w3 w3:=Below.refl _ _
   have hd3:Below w3.heap.size w3 w3.drew:=hc3.drew
   have SS:=HX _ hc3
   have SS1:=HX _ hd3
   go_region_held_law (fun W=>W.cell? ⟨wa.heap.size,0,none⟩=some (.int .i64 E)∧W.cell? ⟨wa.heap.size,1,none⟩=some (.int .i64 S)∧W.cell? ⟨w.heap.size,0,none⟩=some (.int .i64 sc)∧W.cell? ⟨w.heap.size,1,none⟩=some (.int .u64 x)∧W.cell? ⟨w.heap.size,2,none⟩=some (.int .i64 h)∧W.cell? ⟨w.heap.size,3,none⟩=some (.int .i64 n)) (first | assumption | exact SS | exact SS1 | exact SS2 | exact SS3 | exact SS4 | exact HZ _ hbr6 _ _ _ _)
    (first
     | (go_at_call_of 46 E; refine (specPutNum_any E _ hEb).mono ?_; rintro e w4 ⟨a4,c4,rfl,ho4,hb4⟩; have hc4:Below w3.heap.size w3 w4:=keepT (by first | exact hd3 | exact hc3) hb4; have SS2:=HX _ hc4)
     | (go_at_call_of 46 S; refine (specPutNum_any S _ hSb).mono ?_; rintro e w5 ⟨a5,c5,rfl,ho5,hb5⟩; have hc5:=keepT hc4 hb5; have SS3:=HX _ hc5; have ho45:Own w3.heap.size w5 a4 (putI E).length c4 (putI E):=ho4.kept hb5; obtain ⟨g5,rfl⟩:=ho5.shape hSl; have hcl:=row_cells ho5.toRow)
     | (refine step_append_ownT rfl (.tmp 30) (.tmp 33) 26 rfl w3.heap.size 5 i0 _ 1 1 Tryz.underlying26 hi hz0 hz1 hz2 rfl (by decide) _ (putI E).length _ (by simp [Act.eval]) ho45.row ⟨g5,0,none⟩ (putI S).length c5 ((putI S).map (Value.int .u8)) (by simp [Act.eval]) (by simp) hcl (ints_oneCell .u8 (putI S)) (by unfold maxLen; omega) (by omega) (by exact hc5.size) ?_; intro v6 w6 hv6 hg6; have hbr6:Below w3.heap.size w3 w6:=hc5.grown hg6 hc5.size (fun k hk=>(ho45.row.lt k hk).1); have SS4:=HX _ hbr6; obtain ⟨r0,r1,r2,r3⟩:=cells4 (HY.out _ hbr6).r; obtain ⟨f0,f1,f2,f3⟩:=frozen4 (HY.out _ hbr6).r; obtain ⟨a6,c6,rfl,ho6⟩:=own_appended hv6 ho45.byte ho5.byte))
   have HB6:Hid (_=_):=(HY.out _ hbr6).r
   have HO6:Hid (Own w3.heap.size w6 a6 ((putI E).length+(putI S).length) c6 (putI E++putI S)):=ho6
   have hB6:Below w.heap.size w w6:=keepT hB2 (keepT hb23 hbr6)
   go_wp2
   try simp only [Exit.inBlock,Exit.then]
   have h3w:w.heap.size≤w3.heap.size:=by omega
   exact bodyPost_ret (results_sa rfl _ (w.heap.size+1) rfl _ rfl _ rfl _ _ _ _ _ (heap_set4 HB6.out _ _ _ _)) rfl ⟨a6,c6,by rw [HT.out]; show _=Ending.returned (Value.tuple #[.slice a6 (putI E++putI S).length c6,_,_]); rw [List.length_append]; rfl,by rw [HT.out]; show Own _ _ _ (putI E++putI S).length _ _; rw [List.length_append]; exact (HO6.out.set4 hw3s _ _ _ _).mono h3w,below_set4 hB6 _ (by omega) _ _ _ _⟩
  ·obtain ⟨h2,hkk⟩:sc=2∧kP h n:=hk.elim (fun a=>absurd a.1 h1) (fun a=>a)
   have HT1:Hid (T=((saT x h n ms).1,(sc,x,h,(saT x h n ms).2.1),(saT x h n ms).2.2)):=by show _=_; rw [HT0.out]; unfold saV; rw [if_pos hk,if_neg h1]
   have z1:(sc == 1)=false:=beq_false_of_ne h1
   clear h1 h2
   obtain ⟨s0,s1,s2,s3⟩:=cells4 HX2.out.s
   go_wp2_with fail
   refine (l8Tree_any sc x h n _).mono ?_
   rintro e w2b ⟨rfl,hb2b⟩
   clear s0 s1 s2 s3
   go_wp2_with fail
   refine (HS.out x h n am nn c ms _ hx (HR1.out.kept (keepT hb2 hb2b)) (by omega)).mono ?_
   rintro e w3 ⟨v,rfl,hv,hb3⟩
   have hb13:=keepT hb2b hb3
   have hs2b:=hb2b.size
   have hs3:=hb3.size
   cases hv with
   | bad hkk2=>exact absurd hkk hkk2
   | used _ hu =>
    have HT:Hid (T=([],(sc,x,h,n),2)):=by show _=_; rw [HT1.out]; unfold saT; rw [if_pos hu]
    clear hu
    rw [tsv,tkv]
    obtain ⟨w5,hw5⟩:∃ w5,w5=(w3.alloc (.cells #[.int .i64 0,.slice none 0 0,.slice none 0 0] 85)).alloc (.cells #[.int .u64 x,.int .i64 h,.int .i64 n] 87):=⟨_,rfl⟩
    have hb5:Below w3.heap.size w3 w5:=by rw [hw5]; exact two_below _ _ _
    have hb15:=keepT hb13 hb5
    have HX5:Hid (_):=HX2.out.kept hb15
    have hB5:=keepT hB2 hb15
    have HW5:Hid (_=_):=hw5
    clear hw5
    go_upto_region 8 with fail
    rw [← HW5.out]
    clear HW5
    obtain ⟨s0,s1,s2,s3⟩:=cells4 HX5.out.s
    obtain ⟨r0,r1,r2,r3⟩:=cells4 HX5.out.r
    obtain ⟨f0,f1,f2,f3⟩:=frozen4 HX5.out.r
    have hl5:w.heap.size+1<w5.heap.size:=Nat.lt_of_lt_of_le hl2 hb15.size
    have hn1:¬ (w5.heap.size=w.heap.size+1):=by omega
    have hn2:¬ (w.heap.size+1=w5.heap.size):=by omega
    have hn3:¬ (w5.heap.size=w.heap.size):=by omega
    have hn4:¬ (w.heap.size=w5.heap.size):=by omega
    have hx5a:=HX5.out.kept ((Below.refl _ _).alloc (Nat.le_refl _) (.cells #[] 5))
    obtain ⟨sa0,sa1,sa2,sa3⟩:=cells4 hx5a.s
    obtain ⟨ra0,ra1,ra2,ra3⟩:=cells4 hx5a.r
    obtain ⟨fa0,fa1,fa2,fa3⟩:=frozen4 hx5a.r
    clear hx5a
    go_region
    all_goals
     go_wp2
     try simp only [Exit.inBlock,Exit.then]
     have hs4:=set4_size w5 (w.heap.size+1) (.int .i64 sc) (.int .u64 x) (.int .i64 h) (.int .i64 n)
     have hb4:=below_set4 hB5 (w.heap.size+1) (by omega) (.int .i64 sc) (.int .u64 x) (.int .i64 h) (.int .i64 n)
     have hg4:=heap_set4 HX5.out.r (.int .i64 sc) (.int .u64 x) (.int .i64 h) (.int .i64 n)
     have hl4:w.heap.size+1<(set4 w5 (w.heap.size+1) (.int .i64 sc) (.int .u64 x) (.int .i64 h) (.int .i64 n)).heap.size:=by rw [hs4]; exact hl5
     have hl4':w.heap.size≤(set4 w5 (w.heap.size+1) (.int .i64 sc) (.int .u64 x) (.int .i64 h) (.int .i64 n)).heap.size:=by omega
     exact bodyPost_ret (results_sa rfl _ (w.heap.size+1) rfl _ rfl _ rfl _ _ _ _ _ (by rw [heap_drew]; exact (alloc_oldT _ _ _ hl4).trans hg4)) rfl ⟨_,_,by rw [HT.out]; rfl,by rw [HT.out]; exact (own_zero' _ _ _ hs4 hl4').drew,(hb4.alloc hl4' _).drew⟩
   | made _ hu a1 c1 a2 c2 M p1 hM hB p2 =>
    obtain ⟨zs,hzs⟩:∃ zs,zs=endSs x n ms++pathN (leavesN x (2 ^ h.toNat)) n.toNat h.toNat:=⟨_,rfl⟩
    have HT:Hid (T=(putI n++flatL zs,(sc,x,h,n+1),0)):=by show _=_; rw [HT1.out,hzs]; unfold saT sgT; rw [if_neg hu]
    obtain ⟨H,hH⟩:∃ H,H=h.toNat:=⟨_,rfl⟩
    have hH5:H≤5:=by have:=hkk.1; omega
    obtain ⟨es,hes⟩:∃ es,es=endSs x n ms:=⟨_,rfl⟩
    obtain ⟨ps,hps⟩:∃ ps,ps=pathN (leavesN x (2 ^ h.toNat)) n.toNat h.toNat:=⟨_,rfl⟩
    rw [← hes,← hps] at hzs
    rw [← hes] at p1
    rw [← hps,← hH] at p2
    rw [← hH]
    have hnb:n≤9223372036854775806:=by
     have a1:=hkk.2.2
     rw [← hH] at a1
     have a2:2 ^ H≤2 ^ 5:=Nat.pow_le_pow_right (by decide) hH5
     omega
    have HZL:Hid (putI n++flatL zs=putI n++flatL es++flatL ps):=by show _=_; rw [hzs,flatL_cat,List.append_assoc]
    have HLL:Hid ((putI n++flatL zs).length=(putI n).length+8 * 18+8 * H):=by show _=_; rw [HZL.out,List.length_append,List.length_append,flatL_len,flatL_len,p1.len,p2.len]
    clear hH hes hps hzs hu
    rw [tsv,tkv]
    obtain ⟨w5,hw5⟩:∃ w5,w5=(w3.alloc (.cells #[.int .i64 n,.slice a1 18 c1,.slice a2 H c2] 85)).alloc (.cells #[.int .u64 x,.int .i64 h,.int .i64 (n+1)] 87):=⟨_,rfl⟩
    have hb5:Below w3.heap.size w3 w5:=by rw [hw5]; exact two_below _ _ _
    have hk5:w5.heap[w3.heap.size+1]? = some (.cells #[.int .u64 x,.int .i64 h,.int .i64 (n+1)] 87):=by rw [hw5]; exact (two_blocks _ _ _).2
    have hg5:w5.heap[w3.heap.size]? = some (.cells #[.int .i64 n,.slice a1 18 c1,.slice a2 H c2] 85):=by rw [hw5]; exact (two_blocks _ _ _).1
    have hb15:=keepT hb13 hb5
    have hx5:=HX2.out.kept hb15
    have HW5:Hid (_=_):=hw5
    clear hw5
    go_upto_region 9 with fail
    rw [← HW5.out]
    clear HW5
    have t2:w5.cell? ⟨w3.heap.size+1,2,none⟩=some (.int .i64 (n+1)):=qk hk5 rfl
    obtain ⟨s0,s1,s2,s3⟩:=cells4 hx5.s
    obtain ⟨f0,f1,f2,f3⟩:=frozen4 hx5.s
    obtain ⟨w6,hw6⟩:∃ w6,w6=w5.setCell ⟨w.heap.size,3,none⟩ (.int .i64 (n+1)):=⟨_,rfl⟩
    have hb6:Below w.heap.size w w6:=by rw [hw6]; exact (keepT hB2 hb15).setCell (Nat.le_refl _) _
    have HX6:Hid (Bx2 w.heap.size sc x h (n+1) w6):=by show Bx2 _ _ _ _ _ _; rw [hw6]; exact hx5.next _
    have HU1:Hid (OwnU w2b.heap.size w6 a1 18 c1 es):=by show OwnU _ _ _ _ _ _; rw [hw6]; exact (p1.kept hb5).set (by omega) _ _
    have HU2:Hid (OwnU M w6 a2 H c2 ps):=by show OwnU _ _ _ _ _ _; rw [hw6]; exact (p2.kept hb5).set (by omega) _ _
    have HG6:Hid (w6.heap[w3.heap.size]? = some (.cells #[.int .i64 n,.slice a1 18 c1,.slice a2 H c2] 85)):=by show _=_; rw [hw6]; exact (Below.heap_setCell _ _ _ _ (by simp; omega)).trans hg5
    have hsz6:w.heap.size+1<w6.heap.size:=(Array.getElem?_eq_some_iff.1 HX6.out.r).1
    have hs36:w.heap.size+1<w3.heap.size:=Nat.lt_of_lt_of_le hl2 (Nat.le_trans hs2b hs3)
    have HW6:Hid (_=_):=hw6
    clear hw6 hx5 hk5 hg5 p1 p2 hM hB
    go_upto_region 10 with fail
    rw [← HW6.out]
    clear HW6 s0 s1 s2 s3 f0 f1 f2 f3 t2
    have HX:∀ W,Below w6.heap.size w6 W→(W.cell? ⟨w3.heap.size,0,none⟩=some (.int .i64 n)∧W.cell? ⟨w3.heap.size,1,none⟩=some (.slice a1 18 c1)∧W.cell? ⟨w3.heap.size,2,none⟩=some (.slice a2 H c2))∧W.cell? ⟨w.heap.size,0,none⟩=some (.int .i64 sc)∧W.cell? ⟨w.heap.size,1,none⟩=some (.int .u64 x)∧W.cell? ⟨w.heap.size,2,none⟩=some (.int .i64 h)∧W.cell? ⟨w.heap.size,3,none⟩=some (.int .i64 (n+1)):=fun W hW=>⟨cells3' ((hW.block _ (Array.getElem?_eq_some_iff.1 HG6.out).1).trans HG6.out),cells4 (HX6.out.kept hW).s⟩
    have HZ:∀ W,Below w6.heap.size w6 W→∀ v0 v1 v2 v3,((set4 W (w.heap.size+1) v0 v1 v2 v3).cell? ⟨w3.heap.size,0,none⟩=some (.int .i64 n)∧(set4 W (w.heap.size+1) v0 v1 v2 v3).cell? ⟨w3.heap.size,1,none⟩=some (.slice a1 18 c1)∧(set4 W (w.heap.size+1) v0 v1 v2 v3).cell? ⟨w3.heap.size,2,none⟩=some (.slice a2 H c2))∧(set4 W (w.heap.size+1) v0 v1 v2 v3).cell? ⟨w.heap.size,0,none⟩=some (.int .i64 sc)∧(set4 W (w.heap.size+1) v0 v1 v2 v3).cell? ⟨w.heap.size,1,none⟩=some (.int .u64 x)∧(set4 W (w.heap.size+1) v0 v1 v2 v3).cell? ⟨w.heap.size,2,none⟩=some (.int .i64 h)∧(set4 W (w.heap.size+1) v0 v1 v2 v3).cell? ⟨w.heap.size,3,none⟩=some (.int .i64 (n+1)):=by
     intro W hW v0 v1 v2 v3
     obtain ⟨⟨e0,e1,e2⟩,e3,e4,e5,e6⟩:=HX W hW
     exact ⟨⟨(set4_cell W _ _ _ (by omega) _ _ _ _).trans e0,(set4_cell W _ _ _ (by omega) _ _ _ _).trans e1,(set4_cell W _ _ _ (by omega) _ _ _ _).trans e2⟩,(set4_cell W _ _ _ (by omega) _ _ _ _).trans e3,(set4_cell W _ _ _ (by omega) _ _ _ _).trans e4,(set4_cell W _ _ _ (by omega) _ _ _ _).trans e5,(set4_cell W _ _ _ (by omega) _ _ _ _).trans e6⟩
    have hc6:Below w6.heap.size w6 w6:=Below.refl _ _
    have hd6:Below w6.heap.size w6 w6.drew:=hc6.drew
    have SS:=HX _ hc6
    have SS1:=HX _ hd6
    go_region_held_law (fun W=>(W.cell? ⟨w3.heap.size,0,none⟩=some (.int .i64 n)∧W.cell? ⟨w3.heap.size,1,none⟩=some (.slice a1 18 c1)∧W.cell? ⟨w3.heap.size,2,none⟩=some (.slice a2 H c2))∧W.cell? ⟨w.heap.size,0,none⟩=some (.int .i64 sc)∧W.cell? ⟨w.heap.size,1,none⟩=some (.int .u64 x)∧W.cell? ⟨w.heap.size,2,none⟩=some (.int .i64 h)∧W.cell? ⟨w.heap.size,3,none⟩=some (.int .i64 (n+1))) (first | assumption | exact SS | exact SS1 | exact SS2 | exact HZ _ hc9 _ _ _ _)
     (first
      | (go_at_call 49; refine (l8SigBytes_any n a1 18 c1 es a2 H c2 ps _ (by omega) (HU1.out.toRow.kept hd6) (HU2.out.toRow.kept hd6) (by decide) (by omega)).mono ?_; rintro e w9 ⟨a9,c9,rfl,ho9,hb9⟩; have hc9:Below w6.heap.size w6 w9:=keepT hd6 hb9; have SS2:=HX _ hc9; obtain ⟨r0,r1,r2,r3⟩:=cells4 (HX6.out.kept hc9).r; obtain ⟨f0,f1,f2,f3⟩:=frozen4 (HX6.out.kept hc9).r))
    have HB9:Hid (_=_):=(HX6.out.kept hc9).r
    have HO9:Hid (Own w6.heap.size w9 a9 ((putI n).length+8 * 18+8 * H) c9 (putI n++flatL es++flatL ps)):=ho9
    have hB9:Below w.heap.size w w9:=hb6.trans (hc9.mono hb6.size)
    go_wp2
    try simp only [Exit.inBlock,Exit.then]
    exact bodyPost_ret (results_sa rfl _ (w.heap.size+1) rfl _ rfl _ rfl _ _ _ _ _ (heap_set4 HB9.out _ _ _ _)) rfl ⟨a9,c9,by rw [HT.out]; show _=Ending.returned (Value.tuple #[.slice a9 (putI n++flatL zs).length c9,_,_]); rw [HLL.out]; rfl,by rw [HT.out]; show Own _ _ _ (putI n++flatL zs).length _ (putI n++flatL zs); rw [HLL.out,HZL.out]; exact (HO9.out.set4 hsz6 _ _ _ _).mono hb6.size,below_set4 hB9 _ (by omega) _ _ _ _⟩
 ·have HT:Hid (T=([],(0,0,0,0),1)):=by show _=_; rw [HT0.out]; unfold saV; rw [if_neg hk]
  rw [decide_eq_false hk]
  obtain ⟨r0,r1,r2,r3⟩:=cells4 HX2.out.r
  obtain ⟨f0,f1,f2,f3⟩:=frozen4 HX2.out.r
  have hn1:¬ (w2.heap.size=w.heap.size+1):=by omega
  have hn2:¬ (w.heap.size+1=w2.heap.size):=by omega
  go_wp2
  try simp only [Exit.inBlock,Exit.then]
  have hs4:=set4_size w2 (w.heap.size+1) (.int .i64 0) (.int .u64 0) (.int .i64 0) (.int .i64 0)
  have hb4:=below_set4 hB2 (w.heap.size+1) (by omega) (.int .i64 0) (.int .u64 0) (.int .i64 0) (.int .i64 0)
  have hg4:=heap_set4 HX2.out.r (.int .i64 0) (.int .u64 0) (.int .i64 0) (.int .i64 0)
  have hl4:w.heap.size+1<(set4 w2 (w.heap.size+1) (.int .i64 0) (.int .u64 0) (.int .i64 0) (.int .i64 0)).heap.size:=by rw [hs4]; exact hl2
  have hl4':w.heap.size≤(set4 w2 (w.heap.size+1) (.int .i64 0) (.int .u64 0) (.int .i64 0) (.int .i64 0)).heap.size:=by omega
  exact bodyPost_ret (results_sa rfl _ (w.heap.size+1) rfl _ rfl _ rfl _ _ _ _ _ ((alloc_oldT _ _ _ hl4).trans hg4)) rfl ⟨_,_,by rw [HT.out]; rfl,by rw [HT.out]; exact own_zero' _ _ _ hs4 hl4',hb4.alloc hl4' _⟩
end Go.Proofs.YtnmplldhdfingaaGreatDoor
