import Derived.Test.YtnmplldhdfingaaGreatDoorFG36
set_option maxRecDepth 10000
set_option maxHeartbeats 8000000
set_option linter.unusedVariables false
namespace Go.Proofs.YtnmplldhdfingaaGreatDoor
open Go.RowKit Go.Sort
def cd2r (y:PT)(b0 off n c:Nat)(ao:Option Addr)(kq cc:Nat)(es0:List It)(Q R G B:Nat):RSpec where
 m:=21
 n:=24
 slots:=[13,14,15,16,17,18,19,20,21,22,23,24,25,26,27,28,29,30,31,32,3,100021,100022,3]
 kills:=[[],[],[],[],[],[],[],[],[],[],[],[],[],[],[],[],[],[],[],[],[],[],[19],[20]]
 pres:=[[],[],[],[],[],[],[],[],[],[],[],[],[],[],[],[],[],[],[],[0],[19],[],[],[]]
 fact:=fun k v w=>match k with
  | 0=>v=.slice ao kq cc
  | 1=>v=.pointer (some ⟨G,0,none⟩)
  | 2=>v=.slice (some ⟨b0,off,none⟩) n c
  | 3=>v=.int .i64 (kq:Int)
  | 4=>v=.pointer (some ⟨b0,off+kq * 2,none⟩)
  | 5=>v=.pointer (some ⟨b0,off+kq * 2,none⟩)
  | 6=>v=.int .i64 y.attr
  | 7=>∃ a1 n1 c1 k1 m1 e1,v=.agg #[.int .i64 (numI y.attr).cls,.int .i64 (numI y.attr).tag,.bool (numI y.attr).cons,.slice a1 n1 c1,.slice k1 m1 e1]∧ItZ 0 Q 1 w (numI y.attr) a1 n1 c1 k1 m1 e1
  | 8=>v=.pointer (some ⟨G,0,none⟩)
  | 9=>v=.slice (some ⟨b0,off,none⟩) n c
  | 10=>v=.int .i64 (kq:Int)
  | 11=>v=.pointer (some ⟨b0,off+kq * 2,none⟩)
  | 12=>v=.pointer (some ⟨b0,off+kq * 2+1,none⟩)
  | 13=>v=.string y.val
  | 14=>∃ g2t c2t,v=.slice (some ⟨g2t,0,none⟩) y.val.size c2t∧RowQ Q w g2t y.val.size (bytesOf y.val)
  | 15=>∃ a2 n2 c2 k2 m2 e2,v=.agg #[.int .i64 (bytI (bytesOf y.val)).cls,.int .i64 (bytI (bytesOf y.val)).tag,.bool (bytI (bytesOf y.val)).cons,.slice a2 n2 c2,.slice k2 m2 e2]∧ItZ 0 Q 1 w (bytI (bytesOf y.val)) a2 n2 c2 k2 m2 e2
  | 16=>∃ gr,v=.slice (some ⟨gr,0,none⟩) 2 2∧KidZ 0 Q w gr 2 [numI y.attr,bytI (bytesOf y.val)]
  | 17=>∃ a0 n0 c0 k0 m0 e0,v=.agg #[.int .i64 (parI y).cls,.int .i64 (parI y).tag,.bool (parI y).cons,.slice a0 n0 c0,.slice k0 m0 e0]∧ItZ 0 Q 2 w (parI y) a0 n0 c0 k0 m0 e0
  | 18=>∃ g8 a0 n0 c0 k0 m0 e0,v=.slice (some ⟨g8,0,none⟩) 1 1∧w.heap[g8]? = some (.cells #[.int .i64 (parI y).cls,.int .i64 (parI y).tag,.bool (parI y).cons,.slice a0 n0 c0,.slice k0 m0 e0] 94 (0,0))∧ItZ 0 Q 2 w (parI y) a0 n0 c0 k0 m0 e0∧Q≤g8
  | 19=>∃ gf cf,v=.slice (some ⟨gf,0,none⟩) (kq+1) cf∧OwnItZ 2 0 R w (some ⟨gf,0,none⟩) (kq+1) cf (es0++[parI y])
  | 20=>∃ gf cf,v=.slice (some ⟨gf,0,none⟩) (kq+1) cf∧OwnItZ 2 0 R w (some ⟨gf,0,none⟩) (kq+1) cf (es0++[parI y])
  | 21=>w.heap[G]? = some (.cells #[.slice (some ⟨b0,off,none⟩) n c] 35 (0,0))
  | 22=>OwnItZ 2 0 R w ao kq cc es0
  | _=>v=.slice ao kq cc
theorem cd2r_stb (y:PT)(b0 off n c:Nat)(ao:Option Addr)(kq cc:Nat)(es0:List It)(Q R G B:Nat)(k:Nat)(hk:k<24):StB ((cd2r y b0 off n c ao kq cc es0 Q R G (B)).fact k):=by
 match k,hk with
 | 0,_=>exact fun _ _ _ h _=>h
 | 1,_=>exact fun _ _ _ h _=>h
 | 2,_=>exact fun _ _ _ h _=>h
 | 3,_=>exact fun _ _ _ h _=>h
 | 4,_=>exact fun _ _ _ h _=>h
 | 5,_=>exact fun _ _ _ h _=>h
 | 6,_=>exact fun _ _ _ h _=>h
 | 7,_=>exact fun _ _ _ ⟨a1,n1,c1,k1,m1,e1,hv,q_0⟩ hb=>⟨a1,n1,c1,k1,m1,e1,hv,q_0.kept hb⟩
 | 8,_=>exact fun _ _ _ h _=>h
 | 9,_=>exact fun _ _ _ h _=>h
 | 10,_=>exact fun _ _ _ h _=>h
 | 11,_=>exact fun _ _ _ h _=>h
 | 12,_=>exact fun _ _ _ h _=>h
 | 13,_=>exact fun _ _ _ h _=>h
 | 14,_=>exact fun _ _ _ ⟨g2t,c2t,hv,q_0⟩ hb=>⟨g2t,c2t,hv,q_0.kept hb⟩
 | 15,_=>exact fun _ _ _ ⟨a2,n2,c2,k2,m2,e2,hv,q_0⟩ hb=>⟨a2,n2,c2,k2,m2,e2,hv,q_0.kept hb⟩
 | 16,_=>exact fun _ _ _ ⟨gr,hv,q_0⟩ hb=>⟨gr,hv,q_0.kept hb⟩
 | 17,_=>exact fun _ _ _ ⟨a0,n0,c0,k0,m0,e0,hv,q_0⟩ hb=>⟨a0,n0,c0,k0,m0,e0,hv,q_0.kept hb⟩
 | 18,_=>exact fun _ _ _ ⟨g8,a0,n0,c0,k0,m0,e0,hv,q_0,q_1,q_2⟩ hb=>⟨g8,a0,n0,c0,k0,m0,e0,hv,below_kept q_0 hb,q_1.kept hb,q_2⟩
 | 19,_=>exact fun _ _ _ ⟨gf,cf,hv,q_0⟩ hb=>⟨gf,cf,hv,q_0.kept hb⟩
 | 20,_=>exact fun _ _ _ ⟨gf,cf,hv,q_0⟩ hb=>⟨gf,cf,hv,q_0.kept hb⟩
 | 21,_=>exact fun _ _ _ q_0 hb=>below_kept q_0 hb
 | 22,_=>exact fun _ _ _ q_0 hb=>q_0.kept hb
 | 23,_=>exact fun _ _ _ h _=>h
 | k+24,hk=>omega
theorem ParS_next (xs:List PT)(k:Nat)(h:k<xs.length):(xs.take (k+1)).map parI=(xs.take k).map parI++[parI (xs.getD k default)]:=by
 rw [List.take_add_one,List.map_append]
 simp [h]
theorem l9Name_R (a:Option Addr)(n c:Nat)(xs:List PT)(w:World)(h:Pts w a n xs)(hn:n≤1000)(hv:∀ k,k<n→(xs.getD k default).val.size≤1000) :
  Calls Tryz.prog 51 #[.agg #[.slice a n c]] w fun e w'=>ItR 0 w.heap.size 4 (namI xs) e w'∧Below w.heap.size w w':=by
 obtain ⟨i0,hi,hz0,hz1,hz2⟩:=info_parts Tryz.infoIt
 obtain ⟨w1,hw1⟩:∃ w1,w1=(w.alloc (.cells #[.slice a n c] 35)).alloc (.cells #[.int .i64 0,.int .i64 0,.bool false,.slice none 0 0,.slice none 0 0] 94):=⟨_,rfl⟩
 have hbx:Below w.heap.size w w1:=by rw [hw1]; exact ((Below.refl _ _).alloc (Nat.le_refl _) _).alloc (by simp) _
 have HB1:Hid (_∧_):=two_blocks w (.cells #[.slice a n c] 35) (.cells #[.int .i64 0,.int .i64 0,.bool false,.slice none 0 0,.slice none 0 0] 94)
 rw [← hw1] at HB1
 have hszl:w.heap.size+1<w1.heap.size:=by rw [hw1]; simp
 have H0:Hid (Pts w1 a n xs):=h.kept hbx
 have HLX:Hid (xs.length=n):=h.len
 have HVS:Hid (∀ k,k<n→(xs.getD k default).val.size≤1000):=hv
 have HW:Hid (_=_):=hw1
 have hbE:Below w1.heap.size w1 (w1.alloc (.cells #[] 94)):=(Below.refl _ _).alloc (Nat.le_refl _) _
 have HO0:Hid (OwnItZ 2 0 w1.heap.size (w1.alloc (.cells #[] 94)) (some ⟨w1.heap.size,0,none⟩) 0 0 ((xs.take 0).map parI)):=ownItZ_empty 2 0 w1
 have x0:w1.cell? ⟨w.heap.size,0,none⟩=some (.slice a n c):=qk HB1.out.1 rfl
 clear h hw1 hv
 go_enter Tryz.func51,Tryz.ntmps51
 go_upto_region 1 with fail
 rw [← HW.out]
 clear HW
 go_wp2
 go_loopw [3,4] (fun o i wr=>∃ (kq:Nat) (ao:Option Addr) (cc:Nat),kq≤n∧i=.int .i64 kq∧o=.slice ao kq cc∧Hid (OwnItZ 2 0 w1.heap.size wr ao kq cc ((xs.take kq).map parI))∧Below w1.heap.size w1 wr) (fun _ i _=>n - (intOf i).toNat)
 case atStart=>exact ⟨0,_,0,Nat.zero_le _,rfl,rfl,HO0,hbE⟩
 case round =>
  obtain ⟨kq,ao,cc,hk,rfl,rfl,HO,hbr⟩:=hrel
  have hws:=hbr.size
  clear x0
  have HBR:Hid (wr.heap[w.heap.size]? = some (.cells #[.slice a n c] 35 (0,0))):=below_kept HB1.out.1 hbr
  have x0:wr.cell? ⟨w.heap.size,0,none⟩=some (.slice a n c):=qk HBR.out rfl
  by_cases hkn:kq<n
  ·obtain ⟨b0,off,hA,hlb,hc,_⟩:=H0.out.get kq hkn
   subst hA
   obtain ⟨y,hy⟩:∃ y,y=xs.getD kq default:=⟨_,rfl⟩
   rw [← hy] at hc
   have HSZ2:y.val.size≤1000:=by rw [hy]; exact HVS.out kq hkn
   obtain ⟨es0,hes⟩:∃ es0,es0=(xs.take kq).map parI:=⟨_,rfl⟩
   have HXK:Hid ((xs.take (kq+1)).map parI=es0++[parI y]):=by show _=_; rw [hes,hy]; exact ParS_next xs kq (by rw [HLX.out]; exact hkn)
   have HOR:Hid (OwnItZ 2 0 w1.heap.size wr ao kq cc es0):=by show OwnItZ _ _ _ _ _ _ _ _; rw [hes]; exact HO.out
   have HOWN:Hid (∀ b,(Value.slice ao kq cc).ownBlock=some b→0≤b∧b<wr.heap.size):=fun b hb=>by obtain ⟨vs0,hv0⟩:=HO.out.row; exact ⟨Nat.zero_le _,(hv0.lt b hb).2⟩
   have HCE0:Hid (∀ W,Below w1.heap.size wr W→W.cell? ⟨b0,off+kq * 2,none⟩=some (.int .i64 y.attr)):=fun W hW=>((hbr.trans hW).cell (p:=⟨b0,off+kq * 2,none⟩) hlb).trans hc.c0
   have HCE1:Hid (∀ W,Below w1.heap.size wr W→W.cell? ⟨b0,off+kq * 2+1,none⟩=some (.string y.val)):=fun W hW=>((hbr.trans hW).cell (p:=⟨b0,off+kq * 2+1,none⟩) hlb).trans hc.c1
   have HBB:w1.heap.size≤wr.heap.size:=hws
   have HQR:w1.heap.size≤wr.heap.size:=hws
   have HNG:Hid (∀ b,(Value.slice ao kq cc).ownBlock=some b→b≠w.heap.size):=fun b hb=>by have:=HO.out.2 b hb; omega
   have hkni:(kq:Int)<(n:Int):=by omega
   clear hy hc hes HO
   go_upto_region 5 with fail
   clear x0
   obtain ⟨wq,hwq⟩:∃ wq,wq=wr:=⟨_,rfl⟩
   rw [← hwq] at HBR HOR HOWN HCE0 HCE1 HBB HQR hbr hws ⊢
   clear hwq
   have stb:=cd2r_stb y b0 off n c ao kq cc es0 wq.heap.size w1.heap.size w.heap.size (w1.heap.size)
   refine wp_region_ri (cd2r y b0 off n c ao kq cc es0 wq.heap.size w1.heap.size w.heap.size (w1.heap.size)) [3,13,14,15,16,17,18,19,20,21,22,23,24,25,26,27,28,29,30,31,32] (w1.heap.size) (fun a0=>a0.tmps.size=37∧aT a0 1=.pointer (some ⟨w.heap.size,0,none⟩)∧aT a0 4=.int .i64 (kq:Int)) (by kernel_rfl) rfl (by kernel_rfl) rfl ⟨rfl,rfl,rfl⟩ stb ?_ ?_ ?_
   ·exact vt3 (m:=21) (HBR.out) (HOR.out) (rfl)
   ·rintro a0 ⟨hz,g1,g4⟩
    refine StepsRI.cons ?_ (StepsRI.cons ?_ (StepsRI.cons ?_ (StepsRI.cons ?_ (StepsRI.cons ?_ (StepsRI.cons ?_ (StepsRI.cons ?_ (StepsRI.cons ?_ (StepsRI.cons ?_ (StepsRI.cons ?_ (StepsRI.cons ?_ (StepsRI.cons ?_ (StepsRI.cons ?_ (StepsRI.cons ?_ (StepsRI.cons ?_ (StepsRI.cons ?_ (StepsRI.cons ?_ (StepsRI.cons ?_ (StepsRI.cons ?_ (StepsRI.cons ?_ (StepsRI.cons ?_ (StepsRI.nil)))))))))))))))))))))
    all_goals intro lQ b W hI hUN hED KQ hKQ
    ·have huA:lQ 20=false:=unT fun h=>by
      have h2:=hI.cl 19 (od rfl) (hI.cl 20 (od rfl) h 19 (List.Mem.head _)) 0 (List.Mem.head _)
      rw [show lQ 0=false from hUN] at h2
      cases h2
     have f:aT b 3=.slice ao kq cc:=hI.vot1 23 20 (od rfl) (od rfl) huA rfl
     exact opw_move 3 rfl (hKQ.out _ _ (hI.pu 0 13 hz hUN HBB stb (Below.refl _ _) f))
    ·exact opw_field 35 1 0 rfl _ ((hI.fr.same 1 (by decide)).trans g1) _ (by kernel_rfl) (hKQ.out _ _ (hI.pu 1 14 hz hUN HBB stb (Below.refl _ _) rfl))
    ·have f:=hI.ge 1 hED
     have hg:=(hI.vo 21)
     have hc:W.cell? ⟨w.heap.size,0,none⟩=some (.slice (some ⟨b0,off,none⟩) n c):=qk hg rfl
     exact opw_load1 33 14 rfl _ f _ (by simp [Instr.loadAt,go_sem,hc]) (hKQ.out _ _ (hI.pu 2 15 hz hUN HBB stb (Below.refl _ _) rfl))
    ·exact opw_move 4 rfl (hKQ.out _ _ (hI.pu 3 16 hz hUN HBB stb (Below.refl _ _) ((hI.fr.same 4 (by decide)).trans g4)))
    ·have f0:aT b 15=.slice (some ⟨b0,off,none⟩) n c:=hI.ge 2 hED
     have f1:aT b 16=.int .i64 (kq:Int):=hI.ge 3 hED
     exact opw_indexY 33 15 16 rfl _ _ f0 f1 _ (indexPart b0 off n c kq W hkn) (hKQ.out _ _ (hI.pu 4 17 hz hUN HBB stb (Below.refl _ _) rfl))
    ·have f:aT b 17=.pointer (some ⟨b0,off+kq * 2,none⟩):=hI.ge 4 hED
     exact opw_field 132 17 0 rfl _ f (.pointer (some ⟨b0,off+kq * 2,none⟩)) (by kernel_rfl) (hKQ.out _ _ (hI.pu 5 18 hz hUN HBB stb (Below.refl _ _) rfl))
    ·have f:aT b 18=.pointer (some ⟨b0,off+kq * 2,none⟩):=hI.ge 5 hED
     have hc:W.cell? ⟨b0,off+kq * 2,none⟩=some (.int .i64 y.attr):=HCE0.out W hI.bel
     exact opw_load1 2 18 rfl _ f _ (by simp [Instr.loadAt,go_sem,hc]) (hKQ.out _ _ (hI.pu 6 19 hz hUN HBB stb (Below.refl _ _) rfl))
    ·have f0:aT b 19=.int .i64 y.attr:=hI.ge 6 hED
     refine opw_c1 52 19 Tryz.func52 f0 ?_
     refine (l9Num_R y.attr 0 W).mono ?_
     rintro r W2 ⟨⟨a1,n1,c1,k1,m1,e1,rfl,hzI⟩,hb⟩
     exact ⟨_,rfl,hKQ.out _ _ (hI.pu 7 20 hz hUN HBB stb hb ⟨a1,n1,c1,k1,m1,e1,rfl,((hzI.mono hI.bel.size).le (by decide))⟩)⟩
    ·exact opw_field 35 1 0 rfl _ ((hI.fr.same 1 (by decide)).trans g1) _ (by kernel_rfl) (hKQ.out _ _ (hI.pu 8 21 hz hUN HBB stb (Below.refl _ _) rfl))
    ·have f:=hI.ge 8 hED
     have hg:=(hI.vo 21)
     have hc:W.cell? ⟨w.heap.size,0,none⟩=some (.slice (some ⟨b0,off,none⟩) n c):=qk hg rfl
     exact opw_load1 33 21 rfl _ f _ (by simp [Instr.loadAt,go_sem,hc]) (hKQ.out _ _ (hI.pu 9 22 hz hUN HBB stb (Below.refl _ _) rfl))
    ·exact opw_move 4 rfl (hKQ.out _ _ (hI.pu 10 23 hz hUN HBB stb (Below.refl _ _) ((hI.fr.same 4 (by decide)).trans g4)))
    ·have f0:aT b 22=.slice (some ⟨b0,off,none⟩) n c:=hI.ge 9 hED
     have f1:aT b 23=.int .i64 (kq:Int):=hI.ge 10 hED
     exact opw_indexY 33 22 23 rfl _ _ f0 f1 _ (indexPart b0 off n c kq W hkn) (hKQ.out _ _ (hI.pu 11 24 hz hUN HBB stb (Below.refl _ _) rfl))
    ·have f:aT b 24=.pointer (some ⟨b0,off+kq * 2,none⟩):=hI.ge 11 hED
     exact opw_field 132 24 1 rfl _ f (.pointer (some ⟨b0,off+kq * 2+1,none⟩)) (by kernel_rfl) (hKQ.out _ _ (hI.pu 12 25 hz hUN HBB stb (Below.refl _ _) rfl))
    ·have f:aT b 25=.pointer (some ⟨b0,off+kq * 2+1,none⟩):=hI.ge 12 hED
     have hc:W.cell? ⟨b0,off+kq * 2+1,none⟩=some (.string y.val):=HCE1.out W hI.bel
     exact opw_load1 9 25 rfl _ f _ (by simp [Instr.loadAt,go_sem,hc]) (hKQ.out _ _ (hI.pu 13 26 hz hUN HBB stb (Below.refl _ _) rfl))
    ·have f0:aT b 26=.string y.val:=hI.ge 13 hED
     obtain ⟨cp,W2,hcv,hrow,hb⟩:=conv_str W y.val
     refine opw_convert 9 26 26 rfl _ _ f0 hcv ?_
     exact hKQ.out _ _ (hI.pu 14 27 hz hUN HBB stb hb ⟨W.heap.size,cp,rfl,hrow,hI.bel.size⟩)
    ·obtain ⟨gt,ct,f0,o0⟩:=hI.ge 14 hED
     replace f0:aT b 27=_:=f0
     refine opw_c1 95 27 Tryz.func95 f0 ?_
     refine (l9Bytes_R (some ⟨gt,0,none⟩) y.val.size ct (bytesOf y.val) 0 W o0.row (fun e=>by cases e) HSZ2).mono ?_
     rintro r W2 ⟨⟨a2,n2,c2,k2,m2,e2,rfl,hzI⟩,hb⟩
     exact ⟨_,rfl,hKQ.out _ _ (hI.pu 15 28 hz hUN HBB stb hb ⟨a2,n2,c2,k2,m2,e2,rfl,((hzI.mono hI.bel.size).le (by decide))⟩)⟩
    ·obtain ⟨a1,n1,c1,k1,m1,e1,f1,o1⟩:=hI.ge 7 hED
     replace f1:aT b 20=_:=f1
     obtain ⟨a2,n2,c2,k2,m2,e2,f2,o2⟩:=hI.ge 15 hED
     replace f2:aT b 28=_:=f2
     refine opw_buildSliceT _ 2 _ rfl #[(0,.agg #[.int .i64 (numI y.attr).cls,.int .i64 (numI y.attr).tag,.bool (numI y.attr).cons,.slice a1 n1 c1,.slice k1 m1 e1]),(1,.agg #[.int .i64 (bytI (bytesOf y.val)).cls,.int .i64 (bytI (bytesOf y.val)).tag,.bool (bytI (bytesOf y.val)).cons,.slice a2 n2 c2,.slice k2 m2 e2])] (by simp [ev,f1,f2]) (.slice (some ⟨W.heap.size,0,none⟩) 2 2) (W.alloc (.cells #[.int .i64 (numI y.attr).cls,.int .i64 (numI y.attr).tag,.bool (numI y.attr).cons,.slice a1 n1 c1,.slice k1 m1 e1,.int .i64 (bytI (bytesOf y.val)).cls,.int .i64 (bytI (bytesOf y.val)).tag,.bool (bytI (bytesOf y.val)).cons,.slice a2 n2 c2,.slice k2 m2 e2] 94)) (by kernel_rfl) ?_
     exact hKQ.out _ _ (hI.pu 16 29 hz hUN HBB stb ((Below.refl _ _).alloc (Nat.le_refl _) _) ⟨W.heap.size,rfl,kidZ_n2 hI.bel.size o1 o2⟩)
    ·obtain ⟨gr,f0,o0⟩:=hI.ge 16 hED
     replace f0:aT b 29=_:=f0
     refine opw_c1 50 29 Tryz.func50 f0 ?_
     refine (l9Struct_R o0 rfl).mono ?_
     rintro r W2 ⟨⟨a0,n0,c0,k0,m0,e0,rfl,hzI⟩,hb⟩
     exact ⟨_,rfl,hKQ.out _ _ (hI.pu 17 30 hz hUN HBB stb hb ⟨a0,n0,c0,k0,m0,e0,rfl,hzI⟩)⟩
    ·obtain ⟨a0,n0,c0,k0,m0,e0,f0,o0⟩:=hI.ge 17 hED
     replace f0:aT b 30=_:=f0
     refine opw_buildSliceT _ 1 _ rfl #[(0,.agg #[.int .i64 (parI y).cls,.int .i64 (parI y).tag,.bool (parI y).cons,.slice a0 n0 c0,.slice k0 m0 e0])] (by simp [ev,f0]) (.slice (some ⟨W.heap.size,0,none⟩) 1 1) (W.alloc (.cells #[.int .i64 (parI y).cls,.int .i64 (parI y).tag,.bool (parI y).cons,.slice a0 n0 c0,.slice k0 m0 e0] 94)) (by kernel_rfl) ?_
     have hbA:Below W.heap.size W (W.alloc (.cells #[.int .i64 (parI y).cls,.int .i64 (parI y).tag,.bool (parI y).cons,.slice a0 n0 c0,.slice k0 m0 e0] 94)):=(Below.refl _ _).alloc (Nat.le_refl _) _
     exact hKQ.out _ _ (hI.pu 18 31 hz hUN HBB stb hbA ⟨W.heap.size,a0,n0,c0,k0,m0,e0,rfl,heap_alloc_new W _,o0.kept hbA,hI.bel.size⟩)
    ·obtain ⟨g8,a0,n0,c0,k0,m0,e0,f1,hg8,o1,_⟩:=hI.ge 18 hED
     have f0:aT b 13=.slice ao kq cc:=hI.ge 0 hED
     have hits:OwnItZ 2 0 w1.heap.size W ao kq cc es0:=hI.vot1 22 19 (od rfl) (od rfl) hUN rfl
     replace f1:aT b 31=_:=f1
     obtain ⟨vs,hrow⟩:=hits.row
     have hWs:=hI.bel.size
     refine wp_append_lies W (.tmp 13) (.tmp 31) 92 rfl 0 94 i0 _ 5 72 Tryz.underlying92 hi hz0 hz1 hz2 rfl (by decide) (.slice ao kq cc) kq vs f0 hrow ⟨g8,0,none⟩ 1 1 [.int .i64 (parI y).cls,.int .i64 (parI y).tag,.bool (parI y).cons,.slice a0 n0 c0,.slice k0 m0 e0] f1 rfl (World.news_of_block hg8) (by intro u hu; simp only [List.mem_cons,List.not_mem_nil,or_false] at hu; rcases hu with rfl | rfl | rfl | rfl | rfl <;> rfl) (by decide) (by unfold maxLen; omega) (by omega) (Nat.zero_le _) _ rfl ?_
     intro gf cf w' hv hg hl hlt
     have hnew:OwnItZ 2 0 w1.heap.size w' (some ⟨gf,0,none⟩) (kq+1) cf (es0++[parI y]):=hits.appended o1.it (fun b hb=>⟨by have:=hb.1; have:=HQR; omega,hb.2,fun e=>by have:=HOWN.out b e; have:=hb.1; omega⟩) (by omega) hrow hv hg hl (by have:=HBB; omega)
     have hb':Below w1.heap.size wq w':=hI.bel.grown hg (by have:=HBB; omega) (fun kx hx=>hits.2 kx hx)
     have hno:lQ 20=true→False:=fun h=>by
      have h2:=hI.cl 20 (od rfl) h 19 (List.Mem.head _)
      rw [show lQ 19=false from hUN] at h2
      cases h2
     refine hKQ.out _ _ (hI.turn 19 32 (fun j hj=>by rcases List.mem_singleton.1 hj with rfl; exact edge hED 0 (by kernel_rfl)) rfl (by rw [hz]; decide) rfl hUN rfl hb' ?_ ⟨gf,cf,rfl,hnew⟩)
     intro kx hkx hne hlk hkill u hu
     match kx,hkx,hne,hkill,hu with
      | 0,_,_,_,hu=>exact hu
      | 1,_,_,_,hu=>exact hu
      | 2,_,_,_,hu=>exact hu
      | 3,_,_,_,hu=>exact hu
      | 4,_,_,_,hu=>exact hu
      | 5,_,_,_,hu=>exact hu
      | 6,_,_,_,hu=>exact hu
      | 7,_,_,_,⟨a1,n1,c1,k1,m1,e1,hv,q_0⟩=>exact ⟨a1,n1,c1,k1,m1,e1,hv,q_0.grown hg (fun j hj=>HOWN.out j hj)⟩
      | 8,_,_,_,hu=>exact hu
      | 9,_,_,_,hu=>exact hu
      | 10,_,_,_,hu=>exact hu
      | 11,_,_,_,hu=>exact hu
      | 12,_,_,_,hu=>exact hu
      | 13,_,_,_,hu=>exact hu
      | 14,_,_,_,⟨g2t,c2t,hv,q_0⟩=>exact ⟨g2t,c2t,hv,q_0.grown hg (fun j hj=>HOWN.out j hj)⟩
      | 15,_,_,_,⟨a2,n2,c2,k2,m2,e2,hv,q_0⟩=>exact ⟨a2,n2,c2,k2,m2,e2,hv,q_0.grown hg (fun j hj=>HOWN.out j hj)⟩
      | 16,_,_,_,⟨gr,hv,q_0⟩=>exact ⟨gr,hv,q_0.grown hg (fun j hj=>HOWN.out j hj)⟩
      | 17,_,_,_,⟨a0,n0,c0,k0,m0,e0,hv,q_0⟩=>exact ⟨a0,n0,c0,k0,m0,e0,hv,q_0.grown hg (fun j hj=>HOWN.out j hj)⟩
      | 18,_,_,_,⟨g8,a0,n0,c0,k0,m0,e0,hv,q_0,q_1,q_2⟩=>exact ⟨g8,a0,n0,c0,k0,m0,e0,hv,(hg.block _ (Array.getElem?_eq_some_iff.1 q_0).1 (fun e=>by have:=(HOWN.out _ e.symm).2; omega)).trans q_0,q_1.grown hg (fun j hj=>HOWN.out j hj),q_2⟩
      | 19,_,hne,_,_=>exact absurd rfl hne
      | 20,_,_,hkill,hu=>exact (hno hlk).elim
      | 21,_,_,_,hu=>exact (hg.block _ (Array.getElem?_eq_some_iff.1 hu).1 (fun e=>HNG.out _ e.symm rfl)).trans hu
      | 22,_,_,hkill,_=>exact absurd (hkill 19 (List.Mem.head _)) (by rw [upd_same]; decide)
      | 23,_,_,_,hu=>exact hu
      | kx+24,hkx,_,_,_=>exact absurd hkx (by show ¬ (kx+24<24); omega)
    ·have f:=hI.ge 19 hED
     obtain ⟨gf,cf,f0,o0⟩:=f
     replace f0:aT b 32=_:=f0
     refine opw_assign 32 rfl ?_
     rw [f0]
     exact hKQ.out _ _ (hI.putp 20 3 (fun j hj=>by rcases List.mem_singleton.1 hj with rfl; exact edge hED 19 (by kernel_rfl)) rfl (by rw [hz]; decide) rfl hUN rfl HBB stb (Below.refl _ _) ⟨gf,cf,rfl,o0⟩)
   ·intro b W hf hb F
    clear stb
    obtain ⟨gf,cf,e3,hits⟩:=F 20 (od rfl) rfl
    replace e3:aT b 3=_:=e3
    rw [hf.eq]
    simp only [puts,Act.put,List.setIfInBounds_toArray,List.set_cons_zero,List.set_cons_succ,e3]
    clear hf F e3
    generalize aT b=AT
    clear b
    have HO7:Hid (OwnItZ 2 0 w1.heap.size W (some ⟨gf,0,none⟩) (kq+1) cf ((xs.take (kq+1)).map parI)):=by show OwnItZ _ _ _ _ _ _ _ _; rw [HXK.out]; exact hits
    have B7:Below w1.heap.size w1 W:=hbr.trans hb
    clear hits
    go_wp2
    go_roundw
    case rel=>exact ⟨kq+1,_,cf,by omega,by go_num,rfl,HO7,B7⟩
    case measure=>simp [intOf]; omega
  ·obtain rfl:kq=n:=by omega
   have HX:Hid (xs.take kq=xs):=by show _=_; rw [List.take_of_length_le (by rw [HLX.out]; exact Nat.le_refl _)]
   obtain ⟨z,hz⟩:∃ z,z=lstI (xs.map parI):=⟨_,rfl⟩
   have HZN:Hid (namI xs=strI [z]):=by rw [hz]; rfl
   have hL9:ListZ 0 w1.heap.size 3 wr ao kq (xs.map parI):=⟨by
    have:=HO.out.kids
    rw [HX.out] at this
    exact this⟩
   have HLL:Hid (Calls Tryz.prog 56 #[.slice ao kq cc] wr fun e w'=>ItR 0 w1.heap.size 3 z e w'∧Below wr.heap.size wr w'):=by rw [hz]; exact l9List_R hL9
   clear hL9 hz
   go_wp2_with fail
   refine HLL.out.mono ?_
   rintro e w2 ⟨⟨ab,nb,cb,ak,nk,ck,rfl,hit⟩,hb2⟩
   have B2:Below w1.heap.size w1 w2:=hbr.trans (hb2.mono hws)
   have hal:Below w2.heap.size w2 (w2.alloc (.cells #[.int .i64 z.cls,.int .i64 z.tag,.bool z.cons,.slice ab nb cb,.slice ak nk ck] 94)):=(Below.refl _ _).alloc (Nat.le_refl _) _
   have hkz:KidZ 0 w1.heap.size (w2.alloc (.cells #[.int .i64 z.cls,.int .i64 z.tag,.bool z.cons,.slice ab nb cb,.slice ak nk ck] 94)) w2.heap.size 4 [z]:=kidZ_n1 B2.size hit
   have B3:Below w1.heap.size w1 (w2.alloc (.cells #[.int .i64 z.cls,.int .i64 z.tag,.bool z.cons,.slice ab nb cb,.slice ak nk ck] 94)):=B2.trans (hal.mono B2.size)
   have HSS:Hid (Calls Tryz.prog 50 #[.slice (some ⟨w2.heap.size,0,none⟩) 1 1] (w2.alloc (.cells #[.int .i64 z.cls,.int .i64 z.tag,.bool z.cons,.slice ab nb cb,.slice ak nk ck] 94)) fun e w'=>ItR 0 w1.heap.size 4 (strI [z]) e w'∧Below (w2.alloc (.cells #[.int .i64 z.cls,.int .i64 z.tag,.bool z.cons,.slice ab nb cb,.slice ak nk ck] 94)).heap.size (w2.alloc (.cells #[.int .i64 z.cls,.int .i64 z.tag,.bool z.cons,.slice ab nb cb,.slice ak nk ck] 94)) w'):=l9Struct_R hkz rfl
   clear hkz hit hal hb2 HLL x0 B2
   go_wp2_with fail
   refine HSS.out.mono ?_
   rintro e w4 ⟨⟨ab',nb',cb',ak',nk',ck',rfl,hit⟩,hb4⟩
   have HIT:Hid (_):=hit
   have B4:Below w1.heap.size w1 w4:=B3.trans (hb4.mono B3.size)
   have h5:=below_kept HB1.out.2 B4
   obtain ⟨_,q0,q1,q2,q3,q4,q5,q6,q7,q8,q9⟩:=Box5.of h5
   have H5:Hid (_=_):=h5
   have B5:Below w.heap.size w w4:=keepT hbx B4
   clear h5 hb4 hit HSS B3
   go_wp2_with fail
   try simp only [Exit.inBlock,Exit.then]
   have T:=put5_touch w4 (w.heap.size+1) (.int .i64 (strI [z]).cls) (.int .i64 (strI [z]).tag) (.bool (strI [z]).cons) (.slice ab' nb' cb') (.slice ak' nk' ck')
   rw [HZN.out]
   exact bodyPost_ret (results_it rfl _ (w.heap.size+1) rfl _ _ _ _ _ _ (put5_heap H5.out _ _ _ _ _)) rfl ⟨⟨_,_,_,_,_,_,rfl,(HIT.out.touched T ⟨Nat.zero_le _,by omega⟩).mono (by omega)⟩,B5.trans (T.below (by omega) (by have:=B4.size; omega))⟩
end Go.Proofs.YtnmplldhdfingaaGreatDoor
