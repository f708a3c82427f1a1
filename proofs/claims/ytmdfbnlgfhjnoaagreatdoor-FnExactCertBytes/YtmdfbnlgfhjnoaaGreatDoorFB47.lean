import Derived.Test.YtmdfbnlgfhjnoaaGreatDoorFB46
import Derived.Test.YtmdfbnlgfhjnoaaGreatDoorFB40
set_option maxRecDepth 10000
set_option maxHeartbeats 8000000
set_option linter.unusedVariables false
namespace Go.Proofs.YtmdfbnlgfhjnoaaGreatDoor
open Go.RowKit
structure CeH (lo hi:Nat)(w:World)(s:CES):Prop where
 f1:FR 2 lo hi w s.a1 s.n1
 m1:s.n1≤1048576
 f2:FR 2 lo hi w s.a2 s.n2
 m2:s.n2≤1048576
 f3:NR 5 4 2 lo hi w s.a3 s.n3
 m3:s.n3≤1048576
 f4:NR 5 4 2 lo hi w s.a4 s.n4
 m4:s.n4≤1048576
 f5:NR 5 4 2 lo hi w s.a5 s.n5
 m5:s.n5≤1048576
 f6:FR 1 lo hi w s.a6 s.n6
 m6:s.n6≤1048576
 f7:FR 2 lo hi w s.a7 s.n7
 m7:s.n7≤1048576
 f8:NR 3 2 1 lo hi w s.a8 s.n8
 m8:s.n8≤1048576
 f9:FR 1 lo hi w s.a9 s.n9
 m9:s.n9≤1048576
theorem CeH.sh {lo hi:Nat}{w w':World}{s:CES}(h:CeH lo hi w s)(k:Sh w w'):CeH lo hi w' s:=⟨h.f1.sh k,h.m1,h.f2.sh k,h.m2,h.f3.sh k,h.m3,h.f4.sh k,h.m4,h.f5.sh k,h.m5,h.f6.sh k,h.m6,h.f7.sh k,h.m7,h.f8.sh k,h.m8,h.f9.sh k,h.m9⟩
theorem CEO.h {lo:Nat}{w:World}{s:CES}{x:CE}(h:CEO lo w s x)(hz:CEZ x):CeH lo w.heap.size w s:=by
 replace hz:=h.r.zn.1 hz
 exact ⟨h.f1,hz.1.1,h.f2,hz.2.1.1,h.f3,hz.2.2.1.1,h.f4,hz.2.2.2.1.1,h.f5,hz.2.2.2.2.1.1,h.f6,hz.2.2.2.2.2.1,h.f7,hz.2.2.2.2.2.2.1,h.f8,hz.2.2.2.2.2.2.2.1.1,h.f9,hz.2.2.2.2.2.2.2.2⟩
theorem markCert_h (lo hi:Nat)(s:CES)(x:CE)(w:World)(h:CeH lo hi w s) :
  Calls Tryz.prog 14 #[CEv s x,.int .i64 1] w fun e w'=>∃ K:Nat,e=.returned (.int .i64 (K:Int))∧Touch lo hi w w'∧Sh w w':=by
 obtain ⟨a1,n1,c1,a2,n2,c2,a3,n3,c3,a4,n4,c4,a5,n5,c5,a6,n6,c6,a7,n7,c7,a8,n8,c8,a9,n9,c9⟩:=s
 have HH:Hid (CeH lo hi w ⟨a1,n1,c1,a2,n2,c2,a3,n3,c3,a4,n4,c4,a5,n5,c5,a6,n6,c6,a7,n7,c7,a8,n8,c8,a9,n9,c9⟩):=h
 obtain ⟨K0,hK0⟩:∃ K0:Nat,K0=1:=⟨_,rfl⟩
 have hKp:0<K0∧K0≤1:=by omega
 show Calls Tryz.prog 14 #[.agg #[.int .i64 x.ser,.slice a1 n1 c1,.slice a2 n2 c2,.int .i64 x.frm,.int .i64 x.til,.int .i64 x.key.1,.int .u64 x.key.2.1,.int .i64 x.key.2.2,.bool x.ca,.int .i64 x.room,.int .i64 x.uses,.slice a3 n3 c3,.slice a4 n4 c4,.slice a5 n5 c5,.slice a6 n6 c6,.slice a7 n7 c7,.int .i64 x.need,.int .i64 x.nomap,.int .i64 x.noany,.slice a8 n8 c8,.slice a9 n9 c9],.int .i64 ((1:Nat):Int)] w _
 rw [← hK0]
 clear h hK0
 obtain ⟨w0,hw0⟩:∃ w0,w0=w.alloc (.cells #[.int .i64 x.ser,.slice a1 n1 c1,.slice a2 n2 c2,.int .i64 x.frm,.int .i64 x.til,.int .i64 x.key.1,.int .u64 x.key.2.1,.int .i64 x.key.2.2,.bool x.ca,.int .i64 x.room,.int .i64 x.uses,.slice a3 n3 c3,.slice a4 n4 c4,.slice a5 n5 c5,.slice a6 n6 c6,.slice a7 n7 c7,.int .i64 x.need,.int .i64 x.nomap,.int .i64 x.noany,.slice a8 n8 c8,.slice a9 n9 c9] 46):=⟨_,rfl⟩
 have hb0:Below w.heap.size w w0:=by rw [hw0]; exact (Below.refl _ _).alloc (Nat.le_refl _) _
 have HT0:Hid (Touch lo hi w w0):=Touch.of_below hb0
 have HS0:Hid (Sh w w0):=Sh.below hb0
 have HB0:Hid (∃ cur,w0.heap[w.heap.size]? = some (.cells cur 46 (0,0))∧cur[1]? = some (.slice a1 n1 c1)∧cur[2]? = some (.slice a2 n2 c2)∧cur[11]? = some (.slice a3 n3 c3)∧cur[12]? = some (.slice a4 n4 c4)∧cur[13]? = some (.slice a5 n5 c5)∧cur[14]? = some (.slice a6 n6 c6)∧cur[15]? = some (.slice a7 n7 c7)∧cur[19]? = some (.slice a8 n8 c8)∧cur[20]? = some (.slice a9 n9 c9)):=by
  refine ⟨#[.int .i64 x.ser,.slice a1 n1 c1,.slice a2 n2 c2,.int .i64 x.frm,.int .i64 x.til,.int .i64 x.key.1,.int .u64 x.key.2.1,.int .i64 x.key.2.2,.bool x.ca,.int .i64 x.room,.int .i64 x.uses,.slice a3 n3 c3,.slice a4 n4 c4,.slice a5 n5 c5,.slice a6 n6 c6,.slice a7 n7 c7,.int .i64 x.need,.int .i64 x.nomap,.int .i64 x.noany,.slice a8 n8 c8,.slice a9 n9 c9],?_,rfl,rfl,rfl,rfl,rfl,rfl,rfl,rfl,rfl⟩
  rw [hw0]
  exact heap_alloc_new w _
 clear hb0
 go_enter Tryz.func14,Tryz.ntmps14
 go_upto_region 1 with fail
 rw [← hw0]
 clear hw0
 have x1:w0.cell? ⟨w.heap.size,1,none⟩=some (.slice a1 n1 c1):=by
  obtain ⟨cur,hb,hc⟩:=HB0.out
  exact (cell_of_row _ _ 1 _ _ (0,0) hb).trans hc.1
 have hlt1:w.heap.size<w0.heap.size:=by obtain ⟨cur,hb,_⟩:=HB0.out; exact (Array.getElem?_eq_some_iff.1 hb).1
 have hmx1:=HH.out.m1
 go_wp2_with fail
 refine (markN_fr lo hi a1 n1 c1 K0 _ ((HH.out.sh HS0.out).f1) hmx1 hKp.1 (by omega)).mono ?_
 rintro e w1 ⟨K1,hl1,hu1,rfl,ht1,hs1⟩
 have HT1:Hid (Touch lo hi w w1):=HT0.out.trans ht1
 have HS1:Hid (Sh w w1):=HS0.out.trans hs1
 have HB1:Hid (∃ cur,w1.heap[w.heap.size]? = some (.cells cur 46 (0,0))∧cur[1]? = some (.slice a1 n1 c1)∧cur[2]? = some (.slice a2 n2 c2)∧cur[11]? = some (.slice a3 n3 c3)∧cur[12]? = some (.slice a4 n4 c4)∧cur[13]? = some (.slice a5 n5 c5)∧cur[14]? = some (.slice a6 n6 c6)∧cur[15]? = some (.slice a7 n7 c7)∧cur[19]? = some (.slice a8 n8 c8)∧cur[20]? = some (.slice a9 n9 c9)):=by
  obtain ⟨cur,hb,e0,e1,e2,e3,e4,e5,e6,e7,e8⟩:=HB0.out
  obtain ⟨cur',hb',hc'⟩:=hs1.2 _ _ _ hb
  have g:∀ (j:Nat) (z:Option Addr) (m c:Nat),cur[j]? = some (.slice z m c)→cur'[j]? = some (.slice z m c):=fun j z m c e=>by
   obtain ⟨v',h1,h2⟩:=hc' j _ e
   rw [h1,h2.sl]
  exact ⟨cur',hb',g _ _ _ _ e0,g _ _ _ _ e1,g _ _ _ _ e2,g _ _ _ _ e3,g _ _ _ _ e4,g _ _ _ _ e5,g _ _ _ _ e6,g _ _ _ _ e7,g _ _ _ _ e8⟩
 have hK1:0<K1∧K1≤10000000000000:=by
  have:2 * n1≤2 * 1048576:=Nat.mul_le_mul_left _ hmx1
  have:=hKp
  omega
 clear x1 hlt1 hmx1 ht1 hs1 hl1 hu1 HT0 HS0 HB0 hKp
 have x2:w1.cell? ⟨w.heap.size,2,none⟩=some (.slice a2 n2 c2):=by
  obtain ⟨cur,hb,hc⟩:=HB1.out
  exact (cell_of_row _ _ 2 _ _ (0,0) hb).trans hc.2.1
 have hlt2:w.heap.size<w1.heap.size:=by obtain ⟨cur,hb,_⟩:=HB1.out; exact (Array.getElem?_eq_some_iff.1 hb).1
 have hmx2:=HH.out.m2
 go_wp2_with fail
 refine (markN_fr lo hi a2 n2 c2 K1 _ ((HH.out.sh HS1.out).f2) hmx2 hK1.1 (by omega)).mono ?_
 rintro e w2 ⟨K2,hl2,hu2,rfl,ht2,hs2⟩
 have HT2:Hid (Touch lo hi w w2):=HT1.out.trans ht2
 have HS2:Hid (Sh w w2):=HS1.out.trans hs2
 have HB2:Hid (∃ cur,w2.heap[w.heap.size]? = some (.cells cur 46 (0,0))∧cur[1]? = some (.slice a1 n1 c1)∧cur[2]? = some (.slice a2 n2 c2)∧cur[11]? = some (.slice a3 n3 c3)∧cur[12]? = some (.slice a4 n4 c4)∧cur[13]? = some (.slice a5 n5 c5)∧cur[14]? = some (.slice a6 n6 c6)∧cur[15]? = some (.slice a7 n7 c7)∧cur[19]? = some (.slice a8 n8 c8)∧cur[20]? = some (.slice a9 n9 c9)):=by
  obtain ⟨cur,hb,e0,e1,e2,e3,e4,e5,e6,e7,e8⟩:=HB1.out
  obtain ⟨cur',hb',hc'⟩:=hs2.2 _ _ _ hb
  have g:∀ (j:Nat) (z:Option Addr) (m c:Nat),cur[j]? = some (.slice z m c)→cur'[j]? = some (.slice z m c):=fun j z m c e=>by
   obtain ⟨v',h1,h2⟩:=hc' j _ e
   rw [h1,h2.sl]
  exact ⟨cur',hb',g _ _ _ _ e0,g _ _ _ _ e1,g _ _ _ _ e2,g _ _ _ _ e3,g _ _ _ _ e4,g _ _ _ _ e5,g _ _ _ _ e6,g _ _ _ _ e7,g _ _ _ _ e8⟩
 have hK2:0<K2∧K2≤20000000000000:=by
  have:2 * n2≤2 * 1048576:=Nat.mul_le_mul_left _ hmx2
  have:=hK1
  omega
 clear x2 hlt2 hmx2 ht2 hs2 hl2 hu2 HT1 HS1 HB1 hK1
 have x3:w2.cell? ⟨w.heap.size,11,none⟩=some (.slice a3 n3 c3):=by
  obtain ⟨cur,hb,hc⟩:=HB2.out
  exact (cell_of_row _ _ 11 _ _ (0,0) hb).trans hc.2.2.1
 have hlt3:w.heap.size<w2.heap.size:=by obtain ⟨cur,hb,_⟩:=HB2.out; exact (Array.getElem?_eq_some_iff.1 hb).1
 have hmx3:=HH.out.m3
 go_wp2_with fail
 refine (markG_nr lo hi a3 n3 c3 K2 _ ((HH.out.sh HS2.out).f3) hmx3 hK2.1 (by omega)).mono ?_
 rintro e w3 ⟨K3,hl3,hu3,rfl,ht3,hs3⟩
 have HT3:Hid (Touch lo hi w w3):=HT2.out.trans ht3
 have HS3:Hid (Sh w w3):=HS2.out.trans hs3
 have HB3:Hid (∃ cur,w3.heap[w.heap.size]? = some (.cells cur 46 (0,0))∧cur[1]? = some (.slice a1 n1 c1)∧cur[2]? = some (.slice a2 n2 c2)∧cur[11]? = some (.slice a3 n3 c3)∧cur[12]? = some (.slice a4 n4 c4)∧cur[13]? = some (.slice a5 n5 c5)∧cur[14]? = some (.slice a6 n6 c6)∧cur[15]? = some (.slice a7 n7 c7)∧cur[19]? = some (.slice a8 n8 c8)∧cur[20]? = some (.slice a9 n9 c9)):=by
  obtain ⟨cur,hb,e0,e1,e2,e3,e4,e5,e6,e7,e8⟩:=HB2.out
  obtain ⟨cur',hb',hc'⟩:=hs3.2 _ _ _ hb
  have g:∀ (j:Nat) (z:Option Addr) (m c:Nat),cur[j]? = some (.slice z m c)→cur'[j]? = some (.slice z m c):=fun j z m c e=>by
   obtain ⟨v',h1,h2⟩:=hc' j _ e
   rw [h1,h2.sl]
  exact ⟨cur',hb',g _ _ _ _ e0,g _ _ _ _ e1,g _ _ _ _ e2,g _ _ _ _ e3,g _ _ _ _ e4,g _ _ _ _ e5,g _ _ _ _ e6,g _ _ _ _ e7,g _ _ _ _ e8⟩
 have hK3:0<K3∧K3≤30000000000000:=by
  have:2097156 * n3≤2097156 * 1048576:=Nat.mul_le_mul_left _ hmx3
  have:=hK2
  omega
 clear x3 hlt3 hmx3 ht3 hs3 hl3 hu3 HT2 HS2 HB2 hK2
 have x4:w3.cell? ⟨w.heap.size,12,none⟩=some (.slice a4 n4 c4):=by
  obtain ⟨cur,hb,hc⟩:=HB3.out
  exact (cell_of_row _ _ 12 _ _ (0,0) hb).trans hc.2.2.2.1
 have hlt4:w.heap.size<w3.heap.size:=by obtain ⟨cur,hb,_⟩:=HB3.out; exact (Array.getElem?_eq_some_iff.1 hb).1
 have hmx4:=HH.out.m4
 go_wp2_with fail
 refine (markG_nr lo hi a4 n4 c4 K3 _ ((HH.out.sh HS3.out).f4) hmx4 hK3.1 (by omega)).mono ?_
 rintro e w4 ⟨K4,hl4,hu4,rfl,ht4,hs4⟩
 have HT4:Hid (Touch lo hi w w4):=HT3.out.trans ht4
 have HS4:Hid (Sh w w4):=HS3.out.trans hs4
 have HB4:Hid (∃ cur,w4.heap[w.heap.size]? = some (.cells cur 46 (0,0))∧cur[1]? = some (.slice a1 n1 c1)∧cur[2]? = some (.slice a2 n2 c2)∧cur[11]? = some (.slice a3 n3 c3)∧cur[12]? = some (.slice a4 n4 c4)∧cur[13]? = some (.slice a5 n5 c5)∧cur[14]? = some (.slice a6 n6 c6)∧cur[15]? = some (.slice a7 n7 c7)∧cur[19]? = some (.slice a8 n8 c8)∧cur[20]? = some (.slice a9 n9 c9)):=by
  obtain ⟨cur,hb,e0,e1,e2,e3,e4,e5,e6,e7,e8⟩:=HB3.out
  obtain ⟨cur',hb',hc'⟩:=hs4.2 _ _ _ hb
  have g:∀ (j:Nat) (z:Option Addr) (m c:Nat),cur[j]? = some (.slice z m c)→cur'[j]? = some (.slice z m c):=fun j z m c e=>by
   obtain ⟨v',h1,h2⟩:=hc' j _ e
   rw [h1,h2.sl]
  exact ⟨cur',hb',g _ _ _ _ e0,g _ _ _ _ e1,g _ _ _ _ e2,g _ _ _ _ e3,g _ _ _ _ e4,g _ _ _ _ e5,g _ _ _ _ e6,g _ _ _ _ e7,g _ _ _ _ e8⟩
 have hK4:0<K4∧K4≤40000000000000:=by
  have:2097156 * n4≤2097156 * 1048576:=Nat.mul_le_mul_left _ hmx4
  have:=hK3
  omega
 clear x4 hlt4 hmx4 ht4 hs4 hl4 hu4 HT3 HS3 HB3 hK3
 have x5:w4.cell? ⟨w.heap.size,13,none⟩=some (.slice a5 n5 c5):=by
  obtain ⟨cur,hb,hc⟩:=HB4.out
  exact (cell_of_row _ _ 13 _ _ (0,0) hb).trans hc.2.2.2.2.1
 have hlt5:w.heap.size<w4.heap.size:=by obtain ⟨cur,hb,_⟩:=HB4.out; exact (Array.getElem?_eq_some_iff.1 hb).1
 have hmx5:=HH.out.m5
 go_wp2_with fail
 refine (markG_nr lo hi a5 n5 c5 K4 _ ((HH.out.sh HS4.out).f5) hmx5 hK4.1 (by omega)).mono ?_
 rintro e w5 ⟨K5,hl5,hu5,rfl,ht5,hs5⟩
 have HT5:Hid (Touch lo hi w w5):=HT4.out.trans ht5
 have HS5:Hid (Sh w w5):=HS4.out.trans hs5
 have HB5:Hid (∃ cur,w5.heap[w.heap.size]? = some (.cells cur 46 (0,0))∧cur[1]? = some (.slice a1 n1 c1)∧cur[2]? = some (.slice a2 n2 c2)∧cur[11]? = some (.slice a3 n3 c3)∧cur[12]? = some (.slice a4 n4 c4)∧cur[13]? = some (.slice a5 n5 c5)∧cur[14]? = some (.slice a6 n6 c6)∧cur[15]? = some (.slice a7 n7 c7)∧cur[19]? = some (.slice a8 n8 c8)∧cur[20]? = some (.slice a9 n9 c9)):=by
  obtain ⟨cur,hb,e0,e1,e2,e3,e4,e5,e6,e7,e8⟩:=HB4.out
  obtain ⟨cur',hb',hc'⟩:=hs5.2 _ _ _ hb
  have g:∀ (j:Nat) (z:Option Addr) (m c:Nat),cur[j]? = some (.slice z m c)→cur'[j]? = some (.slice z m c):=fun j z m c e=>by
   obtain ⟨v',h1,h2⟩:=hc' j _ e
   rw [h1,h2.sl]
  exact ⟨cur',hb',g _ _ _ _ e0,g _ _ _ _ e1,g _ _ _ _ e2,g _ _ _ _ e3,g _ _ _ _ e4,g _ _ _ _ e5,g _ _ _ _ e6,g _ _ _ _ e7,g _ _ _ _ e8⟩
 have hK5:0<K5∧K5≤50000000000000:=by
  have:2097156 * n5≤2097156 * 1048576:=Nat.mul_le_mul_left _ hmx5
  have:=hK4
  omega
 clear x5 hlt5 hmx5 ht5 hs5 hl5 hu5 HT4 HS4 HB4 hK4
 have x6:w5.cell? ⟨w.heap.size,14,none⟩=some (.slice a6 n6 c6):=by
  obtain ⟨cur,hb,hc⟩:=HB5.out
  exact (cell_of_row _ _ 14 _ _ (0,0) hb).trans hc.2.2.2.2.2.1
 have hlt6:w.heap.size<w5.heap.size:=by obtain ⟨cur,hb,_⟩:=HB5.out; exact (Array.getElem?_eq_some_iff.1 hb).1
 have hmx6:=HH.out.m6
 go_wp2_with fail
 refine (markI_fr lo hi a6 n6 c6 K5 _ ((HH.out.sh HS5.out).f6) hmx6 (by omega)).mono ?_
 rintro e w6 ⟨K6,hl6,hu6,rfl,ht6,hs6⟩
 have HT6:Hid (Touch lo hi w w6):=HT5.out.trans ht6
 have HS6:Hid (Sh w w6):=HS5.out.trans hs6
 have HB6:Hid (∃ cur,w6.heap[w.heap.size]? = some (.cells cur 46 (0,0))∧cur[1]? = some (.slice a1 n1 c1)∧cur[2]? = some (.slice a2 n2 c2)∧cur[11]? = some (.slice a3 n3 c3)∧cur[12]? = some (.slice a4 n4 c4)∧cur[13]? = some (.slice a5 n5 c5)∧cur[14]? = some (.slice a6 n6 c6)∧cur[15]? = some (.slice a7 n7 c7)∧cur[19]? = some (.slice a8 n8 c8)∧cur[20]? = some (.slice a9 n9 c9)):=by
  obtain ⟨cur,hb,e0,e1,e2,e3,e4,e5,e6,e7,e8⟩:=HB5.out
  obtain ⟨cur',hb',hc'⟩:=hs6.2 _ _ _ hb
  have g:∀ (j:Nat) (z:Option Addr) (m c:Nat),cur[j]? = some (.slice z m c)→cur'[j]? = some (.slice z m c):=fun j z m c e=>by
   obtain ⟨v',h1,h2⟩:=hc' j _ e
   rw [h1,h2.sl]
  exact ⟨cur',hb',g _ _ _ _ e0,g _ _ _ _ e1,g _ _ _ _ e2,g _ _ _ _ e3,g _ _ _ _ e4,g _ _ _ _ e5,g _ _ _ _ e6,g _ _ _ _ e7,g _ _ _ _ e8⟩
 have hK6:0<K6∧K6≤60000000000000:=by
  have:1 * n6≤1 * 1048576:=Nat.mul_le_mul_left _ hmx6
  have:=hK5
  omega
 clear x6 hlt6 hmx6 ht6 hs6 hl6 hu6 HT5 HS5 HB5 hK5
 have x7:w6.cell? ⟨w.heap.size,15,none⟩=some (.slice a7 n7 c7):=by
  obtain ⟨cur,hb,hc⟩:=HB6.out
  exact (cell_of_row _ _ 15 _ _ (0,0) hb).trans hc.2.2.2.2.2.2.1
 have hlt7:w.heap.size<w6.heap.size:=by obtain ⟨cur,hb,_⟩:=HB6.out; exact (Array.getElem?_eq_some_iff.1 hb).1
 have hmx7:=HH.out.m7
 go_wp2_with fail
 refine (markM_fr lo hi a7 n7 c7 K6 _ ((HH.out.sh HS6.out).f7) hmx7 (by omega)).mono ?_
 rintro e w7 ⟨K7,hl7,hu7,rfl,ht7,hs7⟩
 have HT7:Hid (Touch lo hi w w7):=HT6.out.trans ht7
 have HS7:Hid (Sh w w7):=HS6.out.trans hs7
 have HB7:Hid (∃ cur,w7.heap[w.heap.size]? = some (.cells cur 46 (0,0))∧cur[1]? = some (.slice a1 n1 c1)∧cur[2]? = some (.slice a2 n2 c2)∧cur[11]? = some (.slice a3 n3 c3)∧cur[12]? = some (.slice a4 n4 c4)∧cur[13]? = some (.slice a5 n5 c5)∧cur[14]? = some (.slice a6 n6 c6)∧cur[15]? = some (.slice a7 n7 c7)∧cur[19]? = some (.slice a8 n8 c8)∧cur[20]? = some (.slice a9 n9 c9)):=by
  obtain ⟨cur,hb,e0,e1,e2,e3,e4,e5,e6,e7,e8⟩:=HB6.out
  obtain ⟨cur',hb',hc'⟩:=hs7.2 _ _ _ hb
  have g:∀ (j:Nat) (z:Option Addr) (m c:Nat),cur[j]? = some (.slice z m c)→cur'[j]? = some (.slice z m c):=fun j z m c e=>by
   obtain ⟨v',h1,h2⟩:=hc' j _ e
   rw [h1,h2.sl]
  exact ⟨cur',hb',g _ _ _ _ e0,g _ _ _ _ e1,g _ _ _ _ e2,g _ _ _ _ e3,g _ _ _ _ e4,g _ _ _ _ e5,g _ _ _ _ e6,g _ _ _ _ e7,g _ _ _ _ e8⟩
 have hK7:0<K7∧K7≤70000000000000:=by
  have:2 * n7≤2 * 1048576:=Nat.mul_le_mul_left _ hmx7
  have:=hK6
  omega
 clear x7 hlt7 hmx7 ht7 hs7 hl7 hu7 HT6 HS6 HB6 hK6
 have x8:w7.cell? ⟨w.heap.size,19,none⟩=some (.slice a8 n8 c8):=by
  obtain ⟨cur,hb,hc⟩:=HB7.out
  exact (cell_of_row _ _ 19 _ _ (0,0) hb).trans hc.2.2.2.2.2.2.2.1
 have hlt8:w.heap.size<w7.heap.size:=by obtain ⟨cur,hb,_⟩:=HB7.out; exact (Array.getElem?_eq_some_iff.1 hb).1
 have hmx8:=HH.out.m8
 go_wp2_with fail
 refine (markX_nr lo hi a8 n8 c8 K7 _ ((HH.out.sh HS7.out).f8) hmx8 hK7.1 (by omega)).mono ?_
 rintro e w8 ⟨K8,hl8,hu8,rfl,ht8,hs8⟩
 have HT8:Hid (Touch lo hi w w8):=HT7.out.trans ht8
 have HS8:Hid (Sh w w8):=HS7.out.trans hs8
 have HB8:Hid (∃ cur,w8.heap[w.heap.size]? = some (.cells cur 46 (0,0))∧cur[1]? = some (.slice a1 n1 c1)∧cur[2]? = some (.slice a2 n2 c2)∧cur[11]? = some (.slice a3 n3 c3)∧cur[12]? = some (.slice a4 n4 c4)∧cur[13]? = some (.slice a5 n5 c5)∧cur[14]? = some (.slice a6 n6 c6)∧cur[15]? = some (.slice a7 n7 c7)∧cur[19]? = some (.slice a8 n8 c8)∧cur[20]? = some (.slice a9 n9 c9)):=by
  obtain ⟨cur,hb,e0,e1,e2,e3,e4,e5,e6,e7,e8⟩:=HB7.out
  obtain ⟨cur',hb',hc'⟩:=hs8.2 _ _ _ hb
  have g:∀ (j:Nat) (z:Option Addr) (m c:Nat),cur[j]? = some (.slice z m c)→cur'[j]? = some (.slice z m c):=fun j z m c e=>by
   obtain ⟨v',h1,h2⟩:=hc' j _ e
   rw [h1,h2.sl]
  exact ⟨cur',hb',g _ _ _ _ e0,g _ _ _ _ e1,g _ _ _ _ e2,g _ _ _ _ e3,g _ _ _ _ e4,g _ _ _ _ e5,g _ _ _ _ e6,g _ _ _ _ e7,g _ _ _ _ e8⟩
 have hK8:0<K8∧K8≤80000000000000:=by
  have:1048578 * n8≤1048578 * 1048576:=Nat.mul_le_mul_left _ hmx8
  have:=hK7
  omega
 clear x8 hlt8 hmx8 ht8 hs8 hl8 hu8 HT7 HS7 HB7 hK7
 have x9:w8.cell? ⟨w.heap.size,20,none⟩=some (.slice a9 n9 c9):=by
  obtain ⟨cur,hb,hc⟩:=HB8.out
  exact (cell_of_row _ _ 20 _ _ (0,0) hb).trans hc.2.2.2.2.2.2.2.2
 have hlt9:w.heap.size<w8.heap.size:=by obtain ⟨cur,hb,_⟩:=HB8.out; exact (Array.getElem?_eq_some_iff.1 hb).1
 have hmx9:=HH.out.m9
 go_wp2_with fail
 refine (markB_fr lo hi a9 n9 c9 K8 _ ((HH.out.sh HS8.out).f9) hmx9 (by omega)).mono ?_
 rintro e w9 ⟨K9,hl9,hu9,rfl,ht9,hs9⟩
 have HT9:Hid (Touch lo hi w w9):=HT8.out.trans ht9
 have HS9:Hid (Sh w w9):=HS8.out.trans hs9
 clear x9 hlt9 hmx9 ht9 hs9 hl9 hu9 HT8 HS8 HB8 hK8
 go_wp2
 go_ret
 exact ⟨K9,rfl,HT9.out,HS9.out⟩
end Go.Proofs.YtmdfbnlgfhjnoaaGreatDoor
