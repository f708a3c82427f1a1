import Derived.Test.YtnmplldhdfingaaGreatDoorFG21
set_option maxRecDepth 10000
set_option maxHeartbeats 8000000
set_option linter.unusedVariables false
namespace Go.Proofs.YtnmplldhdfingaaGreatDoor
open Go.RowKit Go.Sort
abbrev Sl:=Option Addr × Nat × Nat
structure OwnQ (B:Nat)(w:World)(a:Option Addr)(n cap:Nat)(sl:Nat→Sl)(pv:Nat→List Value)(vs:List Value):Prop where
 row:w.ownsRow B 74 4 (.slice a n cap) n vs
 at0:∀ j,j<n→vs[j * 4]? = some (.slice (sl j).1 (sl j).2.1 (sl j).2.2)
 each:∀ j,j<n→0<(sl j).2.1→w.ownsRow B 132 2 (.slice (sl j).1 (sl j).2.1 (sl j).2.2) (sl j).2.1 (pv j)
 apart:∀ i j,i<n→j<n→i≠j→0<(sl i).2.1→0<(sl j).2.1→(sl i).1≠(sl j).1
theorem OwnQ.below {B:Nat}{w w':World}{a:Option Addr}{n cap:Nat}{sl:Nat→Sl}{pv:Nat→List Value}{vs:List Value}(h:OwnQ B w a n cap sl pv vs)(hb:Below w.heap.size w w'):OwnQ B w' a n cap sl pv vs :=
 ⟨ownsRow_below h.row hb,h.at0,fun j hj hp=>ownsRow_below (h.each j hj hp) hb,h.apart⟩
def nxQ (sl:Nat→Sl)(k:Nat):Nat→Nat
 | 0=>k
 | j+1=>nxQ sl k j+2 * (sl j).2.1+3
theorem nxQ_le (sl:Nat→Sl)(k:Nat){i j:Nat}(h:i≤j):nxQ sl k i≤nxQ sl k j:=by
 induction j with
 | zero =>
      obtain rfl:i=0:=by omega
      exact Nat.le_refl _
 | succ j ih =>
  by_cases e:i=j+1
  ·subst e; exact Nat.le_refl _
  ·have:=ih (by omega)
   simp only [nxQ]
   omega
def mkV (sl:Nat→Sl)(k:Nat)(vs:List Value):Nat→List Value
 | 0=>vs
 | j+1=>(((mkV sl k vs j).set (j * 4+1) (.int .i64 ((nxQ sl k j+2 * (sl j).2.1:Nat):Int))).set (j * 4+2) (.int .i64 (((nxQ sl k j+2 * (sl j).2.1:Nat):Int)+1))).set (j * 4+3) (.int .i64 (((nxQ sl k j+2 * (sl j).2.1:Nat):Int)+1+1))
theorem mkV_len (sl:Nat→Sl)(k:Nat)(vs:List Value)(j:Nat):(mkV sl k vs j).length=vs.length:=by
 induction j with
 | zero=>rfl
 | succ j ih=>simp [mkV,ih]
theorem mkV_get (sl:Nat→Sl)(k:Nat)(vs:List Value):∀ (j i:Nat),i<j→j * 4≤vs.length →
  (mkV sl k vs j)[i * 4+1]? = some (.int .i64 ((nxQ sl k i+2 * (sl i).2.1:Nat):Int))∧(mkV sl k vs j)[i * 4+2]? = some (.int .i64 (((nxQ sl k i+2 * (sl i).2.1:Nat):Int)+1))∧(mkV sl k vs j)[i * 4+3]? = some (.int .i64 (((nxQ sl k i+2 * (sl i).2.1:Nat):Int)+1+1)):=by
 intro j
 induction j with
 | zero=>intro i hi; omega
 | succ j ih =>
  intro i hi hl
  have hm:=mkV_len sl k vs j
  simp only [mkV]
  by_cases e:i=j
  ·subst e
   refine ⟨?_,?_,?_⟩
   ·rw [List.getElem?_set_ne (by omega),List.getElem?_set_ne (by omega),List.getElem?_set_self (by omega)]
   ·rw [List.getElem?_set_ne (by omega),List.getElem?_set_self (by rw [List.length_set]; omega)]
   ·rw [List.getElem?_set_self (by rw [List.length_set,List.length_set]; omega)]
  ·obtain ⟨h1,h2,h3⟩:=ih i (by omega) (by omega)
   refine ⟨?_,?_,?_⟩
   ·rw [List.getElem?_set_ne (by omega),List.getElem?_set_ne (by omega),List.getElem?_set_ne (by omega)]; exact h1
   ·rw [List.getElem?_set_ne (by omega),List.getElem?_set_ne (by omega),List.getElem?_set_ne (by omega)]; exact h2
   ·rw [List.getElem?_set_ne (by omega),List.getElem?_set_ne (by omega),List.getElem?_set_ne (by omega)]; exact h3
def mkP (sl:Nat→Sl)(k:Nat)(pv:Nat→List Value)(j:Nat):Nat→List Value:=fun i=>if i<j then mkPs (nxQ sl k i) (sl i).2.1 else pv i
theorem mkP_zero (sl:Nat→Sl)(k:Nat)(pv:Nat→List Value):mkP sl k pv 0=pv:=by funext i; simp [mkP]
theorem OwnQ.parted {B:Nat}{w w':World}{a:Option Addr}{n cap:Nat}{sl:Nat→Sl}{pv:Nat→List Value}{vs:List Value}{k j:Nat}(h:OwnQ B w a n cap sl (mkP sl k pv j) vs)(hj:j<n)
  (ho:0<(sl j).2.1→w'.ownsRow B 132 2 (.slice (sl j).1 (sl j).2.1 (sl j).2.2) (sl j).2.1 (mkPs (nxQ sl k j) (sl j).2.1)) (ht:TouchA (sl j).1 (sl j).2.1 w w'):OwnQ B w' a n cap sl (mkP sl k pv (j+1)) vs:=by
 refine ⟨ownsRow_keepA h.row ht (fun hp=>ownsRow_ne (h.each j hj hp) h.row (by decide) hp),h.at0,fun i hi hp=>?_,h.apart⟩
 by_cases e:i=j
 ·subst e
  simp only [mkP,if_pos (Nat.lt_succ_self _)]
  exact ho hp
 ·have h1:=ownsRow_keepA (h.each i hi hp) ht (fun hp'=>h.apart j i hj hi (fun q=>e q.symm) hp' hp)
  have e2:mkP sl k pv (j+1) i=mkP sl k pv j i:=by
   unfold mkP
   by_cases hl:i<j
   ·rw [if_pos hl,if_pos (by omega)]
   ·rw [if_neg hl,if_neg (by omega)]
  rw [e2]
  exact h1
theorem OwnQ.numbered {B:Nat}{w:World}{g n cap:Nat}{sl:Nat→Sl}{pv:Nat→List Value}{vs:List Value}(h:OwnQ B w (some ⟨g,0,none⟩) n cap sl pv vs)(i:Nat)(v:Value)(hi:∀ j,i≠j * 4):OwnQ B (w.setCell ⟨g,i,none⟩ v) (some ⟨g,0,none⟩) n cap sl pv (vs.set i v):=by
 refine ⟨(h.row.stored i v).1,fun j hj=>by rw [List.getElem?_set_ne (hi j)]; exact h.at0 j hj,fun j hj hp=>?_,h.apart⟩
 have ht:=touch_set' (p:=g) (q:=g+1) w g i v (Nat.le_refl _) (Nat.lt_succ_self _)
 refine ownsRow_keepA (a:=some ⟨g,0,none⟩) (n:=1) (h.each j hj hp) ⟨ht.os,ht.tape,ht.output,ht.size,fun q hq hne=>ht.block q hq (by
  have:g≠q:=fun e=>hne (by decide) (by rw [e])
  omega)⟩ (fun _ e=>ownsRow_ne (h.each j hj hp) h.row (by decide) hp e.symm)
theorem markGoneS_any (B:Nat)(S:Nat→Prop)(a:Option Addr)(n cap k:Nat)(sl:Nat→Sl)(pv:Nat→List Value)(vs:List Value)(w:World)(h:OwnQ B w a n cap sl pv vs)(hn:n≤1048576)(hs:∀ j,j<n→(sl j).2.1≤1048576)(h0:0<k)(hk:nxQ sl k n≤2000000000000000)
  (hin:∀ g,a=some ⟨g,0,none⟩→0<n→S g) (hin2:∀ j,j<n→∀ g,(sl j).1=some ⟨g,0,none⟩→0<(sl j).2.1→S g) :
  Calls Tryz.prog 31 #[.slice a n cap,.int .i64 k] w fun e w'=>e=.returned (.int .i64 (nxQ sl k n:Nat))∧OwnQ B w' a n cap sl (mkP sl k pv n) (mkV sl k vs n)∧TouchS S w w':=by
 have HIN:Hid (∀ g,a=some ⟨g,0,none⟩→0<n→S g):=hin
 have HIN2:Hid (∀ j,j<n→∀ g,(sl j).1=some ⟨g,0,none⟩→0<(sl j).2.1→S g):=hin2
 have HS:Hid (∀ j,j<n→(sl j).2.1≤1048576):=hs
 have H0:Hid (OwnQ B w a n cap sl pv vs):=h
 have HK:Hid (nxQ sl k n≤2000000000000000):=hk
 have HK0:Hid (0<k):=h0
 clear h hin hin2 hs hk h0
 go_enter Tryz.func31,Tryz.ntmps31
 go_wp2
 go_loopw [1,5] (fun q i wr=>∃ j:Nat,j≤n∧i=.int .i64 j∧q=.int .i64 (nxQ sl k j:Nat)∧Hid (OwnQ B wr a n cap sl (mkP sl k pv j) (mkV sl k vs j))∧TouchS S w wr) (fun _ i _=>n - (intOf i).toNat)
 case atStart=>exact ⟨0,Nat.zero_le _,rfl,rfl,by show OwnQ _ _ _ _ _ _ _ _; rw [mkP_zero]; exact H0.out,TouchS.of_below (Below.refl _ _)⟩
 case round =>
  obtain ⟨j,hj,rfl,rfl,HR,htr⟩:=hrel
  by_cases hlt:j<n
  ·obtain ⟨g,rfl,hgB,hgl⟩:=ownsRow_shape HR.out.row (by omega)
   have hgS:=HIN.out g rfl (by omega)
   have c0:wr.cell? ⟨g,j * 4,none⟩=some (.slice (sl j).1 (sl j).2.1 (sl j).2.2):=(HR.out.row.cellAt (j * 4) (by omega)).trans (HR.out.at0 j hlt)
   have hq1:nxQ sl k (j+1)≤2000000000000000:=Nat.le_trans (nxQ_le sl k (by omega)) HK.out
   have hq0:k≤nxQ sl k j:=nxQ_le sl k (Nat.zero_le _)
   have hsj:=HS.out j hlt
   simp only [nxQ] at hq1
   have HM:=markPartS_q B (sl j).1 (sl j).2.1 (sl j).2.2 (nxQ sl k j) (mkP sl k pv j j) wr (fun hp=>HR.out.each j hlt hp) hsj (by have:=HK0.out; omega) (by omega)
   have HP:Hid (∀ w2,(0<(sl j).2.1→w2.ownsRow B 132 2 (.slice (sl j).1 (sl j).2.1 (sl j).2.2) (sl j).2.1 (mkPs (nxQ sl k j) (sl j).2.1))→TouchA (sl j).1 (sl j).2.1 wr w2→OwnQ B w2 (some ⟨g,0,none⟩) n cap sl (mkP sl k pv (j+1)) (mkV sl k vs j)∧TouchS S w w2):=fun w2 ho ht=>⟨HR.out.parted hlt ho ht,htr.trans (ht.touchS (fun g' e hp=>HIN2.out j hlt g' e hp))⟩
   have HE:Hid (mkV sl k vs (j+1)=(((mkV sl k vs j).set (j * 4+1) (.int .i64 ((nxQ sl k j+2 * (sl j).2.1:Nat):Int))).set (j * 4+2) (.int .i64 (((nxQ sl k j+2 * (sl j).2.1:Nat):Int)+1))).set (j * 4+3) (.int .i64 (((nxQ sl k j+2 * (sl j).2.1:Nat):Int)+1+1))):=rfl
   have HX:Hid (nxQ sl k (j+1)=nxQ sl k j+2 * (sl j).2.1+3):=rfl
   have hlen:(mkV sl k vs j).length=n * 4:=HR.out.row.1
   obtain ⟨ms,hms⟩:∃ ms,ms=mkV sl k vs j:=⟨_,rfl⟩
   rw [← hms] at HE HP hlen
   obtain ⟨p,hp⟩:∃ p,p=nxQ sl k j+2 * (sl j).2.1:=⟨_,rfl⟩
   rw [← hp] at HE HX HM
   have hp1:p≤2000000000000000:=by omega
   obtain ⟨q,hq⟩:∃ q,q=nxQ sl k j:=⟨_,rfl⟩
   obtain ⟨a1,ha⟩:∃ x,x=(sl j).1:=⟨_,rfl⟩
   obtain ⟨n1,hn1⟩:∃ x,x=(sl j).2.1:=⟨_,rfl⟩
   obtain ⟨d1,hd1⟩:∃ x,x=(sl j).2.2:=⟨_,rfl⟩
   rw [← ha,← hn1,← hd1] at c0
   rw [← ha,← hn1,← hd1,← hq] at HM HP
   rw [← hq]
   have HPX:Hid (nxQ sl k (j+1)=p+3):=HX
   have hjn:(j:Int)<(n:Int):=by omega
   clear hp ha hn1 hd1 hq hms hq1 hq0 hsj HX HR htr
   go_wp2_with fail
   refine HM.mono ?_
   rintro e w2 ⟨rfl,ho2,ht2⟩
   obtain ⟨h2,hT2⟩:=HP.out w2 ho2 ht2
   clear HM HP ho2 ht2 c0
   have f1:=h2.row.frozenAt (j * 4+1)
   have f2:=h2.row.frozenAt (j * 4+2)
   have f3:=h2.row.frozenAt (j * 4+3)
   obtain ⟨y1,x1⟩:∃ y,w2.cell? ⟨g,j * 4+1,none⟩=some y:=⟨_,(h2.row.cellAt _ (by omega)).trans (List.getElem?_eq_getElem (by omega))⟩
   obtain ⟨y2,x2⟩:∃ y,w2.cell? ⟨g,j * 4+2,none⟩=some y:=⟨_,(h2.row.cellAt _ (by omega)).trans (List.getElem?_eq_getElem (by omega))⟩
   obtain ⟨y3,x3⟩:∃ y,w2.cell? ⟨g,j * 4+3,none⟩=some y:=⟨_,(h2.row.cellAt _ (by omega)).trans (List.getElem?_eq_getElem (by omega))⟩
   have HF:Hid (OwnQ B (((w2.setCell ⟨g,j * 4+1,none⟩ (.int .i64 (p:Int))).setCell ⟨g,j * 4+2,none⟩ (.int .i64 ((p:Int)+1))).setCell ⟨g,j * 4+3,none⟩ (.int .i64 ((p:Int)+1+1))) (some ⟨g,0,none⟩) n cap sl (mkP sl k pv (j+1)) (mkV sl k vs (j+1))):=by
    show OwnQ _ _ _ _ _ _ _ _
    rw [HE.out]
    exact ((h2.numbered _ _ (fun i=>by omega)).numbered _ _ (fun i=>by omega)).numbered _ _ (fun i=>by omega)
   have HT:Hid (TouchS S w (((w2.setCell ⟨g,j * 4+1,none⟩ (.int .i64 (p:Int))).setCell ⟨g,j * 4+2,none⟩ (.int .i64 ((p:Int)+1))).setCell ⟨g,j * 4+3,none⟩ (.int .i64 ((p:Int)+1+1)))):=((hT2.trans (TouchS.set _ _ _ _ hgS)).trans (TouchS.set _ _ _ _ hgS)).trans (TouchS.set _ _ _ _ hgS)
   clear h2 hT2 HE
   go_wp2
   go_roundw
   case rel=>exact ⟨j+1,by omega,by go_num,by rw [HPX.out,show ((p+3:Nat):Int)=(p:Int)+1+1+1 from by omega],HF,HT.out⟩
   case measure=>simp [intOf]; omega
  ·have hjn:j=n:=by omega
   subst hjn
   go_wp2
   go_ret
   exact ⟨rfl,HR.out,htr⟩
open Go.RowKit Go.Sort
theorem heldGoneS_any (B:Nat)(a:Option Addr)(n cap k:Nat)(sl:Nat→Sl)(pv:Nat→List Value)(vs:List Value)(w:World)(h:OwnQ B w a n cap sl (mkP sl k pv n) (mkV sl k vs n))(hn:n≤1048576)(hs:∀ j,j<n→(sl j).2.1≤1048576)(h0:0<k)(hk:nxQ sl k n≤2000000000000000) :
  Calls Tryz.prog 34 #[.slice a n cap,.int .i64 k] w fun e w'=>e=.returned (.int .i64 (nxQ sl k n:Nat))∧Below w.heap.size w w':=by
 have HS:Hid (∀ j,j<n→(sl j).2.1≤1048576):=hs
 have H0:Hid (OwnQ B w a n cap sl (mkP sl k pv n) (mkV sl k vs n)):=h
 have HK:Hid (nxQ sl k n≤2000000000000000):=hk
 have HK0:Hid (0<k):=h0
 clear h hs hk h0
 go_enter Tryz.func34,Tryz.ntmps34
 go_wp2
 go_loopw [1,5] (fun q i wr=>∃ j:Nat,j≤n∧i=.int .i64 j∧q=.int .i64 (nxQ sl k j:Nat)∧Below w.heap.size w wr) (fun _ i _=>n - (intOf i).toNat)
 case atStart=>exact ⟨0,Nat.zero_le _,rfl,rfl,Below.refl _ _⟩
 case round =>
  obtain ⟨j,hj,rfl,rfl,hbr⟩:=hrel
  by_cases hlt:j<n
  ·have HR:Hid (OwnQ B wr a n cap sl (mkP sl k pv n) (mkV sl k vs n)):=H0.out.below hbr
   obtain ⟨g,rfl,hgB,hgl⟩:=ownsRow_shape HR.out.row (by omega)
   have hlen:vs.length=n * 4:=by rw [← mkV_len sl k vs n]; exact HR.out.row.1
   obtain ⟨m1,m2,m3⟩:=mkV_get sl k vs n j hlt (by omega)
   have c0:wr.cell? ⟨g,j * 4,none⟩=some (.slice (sl j).1 (sl j).2.1 (sl j).2.2):=(HR.out.row.cellAt (j * 4) (by omega)).trans (HR.out.at0 j hlt)
   have c1:=(HR.out.row.cellAt (j * 4+1) (by omega)).trans m1
   have c2:=(HR.out.row.cellAt (j * 4+2) (by omega)).trans m2
   have c3:=(HR.out.row.cellAt (j * 4+3) (by omega)).trans m3
   have hq1:nxQ sl k (j+1)≤2000000000000000:=Nat.le_trans (nxQ_le sl k (by omega)) HK.out
   have hq0:k≤nxQ sl k j:=nxQ_le sl k (Nat.zero_le _)
   have hsj:=HS.out j hlt
   simp only [nxQ] at hq1
   have HM:=heldPartS_q B (sl j).1 (sl j).2.1 (sl j).2.2 (nxQ sl k j) wr (fun hp=>by have h1:=HR.out.each j hlt hp; unfold mkP at h1; rw [if_pos hlt] at h1; exact h1) hsj (by have:=HK0.out; omega) (by omega)
   have HX:Hid (nxQ sl k (j+1)=nxQ sl k j+2 * (sl j).2.1+3):=rfl
   obtain ⟨p,hp⟩:∃ p,p=nxQ sl k j+2 * (sl j).2.1:=⟨_,rfl⟩
   rw [← hp] at HX HM c1 c2 c3
   have hp1:p≤2000000000000000:=by omega
   obtain ⟨q,hq⟩:∃ q,q=nxQ sl k j:=⟨_,rfl⟩
   obtain ⟨a1,ha⟩:∃ x,x=(sl j).1:=⟨_,rfl⟩
   obtain ⟨n1,hn1⟩:∃ x,x=(sl j).2.1:=⟨_,rfl⟩
   obtain ⟨d1,hd1⟩:∃ x,x=(sl j).2.2:=⟨_,rfl⟩
   rw [← ha,← hn1,← hd1] at c0
   rw [← ha,← hn1,← hd1,← hq] at HM
   rw [← hq]
   have hjn:(j:Int)<(n:Int):=by omega
   have hglr:g<wr.heap.size:=hgl
   clear hp ha hn1 hd1 hq hq1 hq0 hsj HR m1 m2 m3 hgl
   go_wp2_with fail
   refine HM.mono ?_
   rintro e w2 ⟨rfl,hb2⟩
   have x1:w2.cell? ⟨g,j * 4+1,none⟩=_:=(hb2.cell (p:=⟨g,j * 4+1,none⟩) hglr).trans c1
   have x2:w2.cell? ⟨g,j * 4+2,none⟩=_:=(hb2.cell (p:=⟨g,j * 4+2,none⟩) hglr).trans c2
   have x3:w2.cell? ⟨g,j * 4+3,none⟩=_:=(hb2.cell (p:=⟨g,j * 4+3,none⟩) hglr).trans c3
   have HB:Hid (Below w.heap.size w w2):=hbr.trans (hb2.mono hbr.size)
   have hpn:¬ ((p:Int)<0):=by omega
   clear HM hb2 c0 c1 c2 c3
   go_wp2
   go_roundw
   case rel=>exact ⟨j+1,by omega,by go_num,by rw [HX.out,show ((p+3:Nat):Int)=(p:Int)+1+1+1 from by omega],HB.out⟩
   case measure=>simp [intOf]; omega
  ·have hjn:j=n:=by omega
   subst hjn
   go_wp2
   go_ret
   exact ⟨rfl,hbr⟩
open Go.RowKit Go.Sort
theorem markName_q (B:Nat)(a:Option Addr)(n cap k:Nat)(vs:List Value)(w:World)(h:0<n→w.ownsRow B 132 2 (.slice a n cap) n vs)(hn:n≤1048576)(h0:0<k)(hk:k≤2000000000000000) :
  Calls Tryz.prog 30 #[.agg #[.slice a n cap],.int .i64 k] w fun e w'=>e=.returned (.int .i64 (k+2 * n:Nat))∧(0<n→w'.ownsRow B 132 2 (.slice a n cap) n (mkPs k n))∧TouchA a n w w':=by
 have hb:Below w.heap.size w (w.alloc (.cells #[.slice a n cap] 35)):=(Below.refl _ _).alloc (Nat.le_refl _) _
 have HM:=markPartS_q B a n cap k vs (w.alloc (.cells #[.slice a n cap] 35)) (fun hp=>ownsRow_below (h hp) hb) hn h0 hk
 clear h
 go_enter Tryz.func30,Tryz.ntmps30
 go_wp2_with fail
 refine HM.mono ?_
 rintro e w2 ⟨rfl,ho,ht⟩
 have HO:Hid (_):=ho
 have HT:Hid (_):=(TouchA.of_below hb).trans ht
 clear HM ho ht
 go_wp2
 go_ret
 exact ⟨rfl,HO.out,HT.out⟩
theorem heldName_q (B:Nat)(a:Option Addr)(n cap k:Nat)(w:World)(h:0<n→w.ownsRow B 132 2 (.slice a n cap) n (mkPs k n))(hn:n≤1048576)(h0:0<k)(hk:k≤2000000000000000) :
  Calls Tryz.prog 33 #[.agg #[.slice a n cap],.int .i64 k] w fun e w'=>e=.returned (.int .i64 (k+2 * n:Nat))∧Below w.heap.size w w':=by
 have hb:Below w.heap.size w (w.alloc (.cells #[.slice a n cap] 35)):=(Below.refl _ _).alloc (Nat.le_refl _) _
 have HM:=heldPartS_q B a n cap k (w.alloc (.cells #[.slice a n cap] 35)) (fun hp=>ownsRow_below (h hp) hb) hn h0 hk
 have hpn:¬ (((k+2 * n:Nat):Int)<0):=by omega
 clear h
 obtain ⟨p,hp⟩:∃ p,p=k+2 * n:=⟨_,rfl⟩
 rw [← hp] at HM hpn
 rw [← hp]
 clear hp
 go_enter Tryz.func33,Tryz.ntmps33
 go_wp2_with fail
 refine HM.mono ?_
 rintro e w2 ⟨rfl,hb2⟩
 have HB:Hid (Below w.heap.size w w2):=hb.trans (hb2.mono hb.size)
 clear HM hb2
 go_wp2
 go_ret
 exact ⟨rfl,HB.out⟩
structure OwnC (B:Nat)(w:World)(a1:Option Addr)(n1 c1:Nat)(a2:Option Addr)(n2 c2:Nat)(a3:Option Addr)(n3 c3:Nat)(v1:List Value)(sl:Nat→Sl)(pv:Nat→List Value)(vs:List Value)(bs:List Int):Prop where
 nm:0<n1→w.ownsRow B 132 2 (.slice a1 n1 c1) n1 v1
 en:OwnQ B w a2 n2 c2 sl pv vs
 sg:Own B w a3 n3 c3 bs
 ap:∀ j,j<n2→0<n1→0<(sl j).2.1→a1≠(sl j).1
theorem OwnQ.keepS {B:Nat}{S:Nat→Prop}{w w':World}{a:Option Addr}{n cap:Nat}{sl:Nat→Sl}{pv:Nat→List Value}{vs:List Value}(h:OwnQ B w a n cap sl pv vs)(k:TouchS S w w')(h1:∀ g,a=some ⟨g,0,none⟩→B≤g→¬ S g)(h2:∀ j,j<n→0<(sl j).2.1→∀ g,(sl j).1=some ⟨g,0,none⟩→B≤g→¬ S g):OwnQ B w' a n cap sl pv vs :=
 ⟨ownsRow_keepS h.row k h1,h.at0,fun j hj hp=>ownsRow_keepS (h.each j hj hp) k (h2 j hj hp),h.apart⟩
theorem OwnC.low {B:Nat}{S:Nat→Prop}{w w':World}{a1:Option Addr}{n1 c1:Nat}{a2:Option Addr}{n2 c2:Nat}{a3:Option Addr}{n3 c3:Nat}{v1:List Value}{sl:Nat→Sl}{pv:Nat→List Value}{vs:List Value}{bs:List Int}(h:OwnC B w a1 n1 c1 a2 n2 c2 a3 n3 c3 v1 sl pv vs bs)(k:TouchS S w w')(hS:∀ i,S i→i<B):OwnC B w' a1 n1 c1 a2 n2 c2 a3 n3 c3 v1 sl pv vs bs :=
 ⟨fun hp=>ownsRow_keepS (h.nm hp) k (fun g _ hg q=>by have:=hS g q; omega),h.en.keepS k (fun g _ hg q=>by have:=hS g q; omega) (fun j hj hp g _ hg q=>by have:=hS g q; omega),
  ⟨ownsRow_keepS h.sg.row k (fun g _ hg q=>by have:=hS g q; omega),h.sg.byte⟩,h.ap⟩
theorem OwnC.below {B:Nat}{w w':World}{a1:Option Addr}{n1 c1:Nat}{a2:Option Addr}{n2 c2:Nat}{a3:Option Addr}{n3 c3:Nat}{v1:List Value}{sl:Nat→Sl}{pv:Nat→List Value}{vs:List Value}{bs:List Int}(h:OwnC B w a1 n1 c1 a2 n2 c2 a3 n3 c3 v1 sl pv vs bs)(hb:Below w.heap.size w w'):OwnC B w' a1 n1 c1 a2 n2 c2 a3 n3 c3 v1 sl pv vs bs :=
 h.low (S:=fun _=>False) (TouchS.of_below hb) (fun _ q=>q.elim)
open Go.RowKit Go.Sort
structure InC (S:Nat→Prop)(a1:Option Addr)(n1:Nat)(a2:Option Addr)(n2:Nat)(a3:Option Addr)(sl:Nat→Sl):Prop where
 nm:∀ g,a1=some ⟨g,0,none⟩→0<n1→S g
 en:∀ g,a2=some ⟨g,0,none⟩→0<n2→S g
 each:∀ j,j<n2→∀ g,(sl j).1=some ⟨g,0,none⟩→0<(sl j).2.1→S g
 sg:∀ g,a3=some ⟨g,0,none⟩→S g
theorem ownsRow_in {w:World}{B t s n c:Nat}{a:Option Addr}{vs:List Value}(h:w.ownsRow B t s (.slice a n c) n vs)(g:Nat)(e:a=some ⟨g,0,none⟩):B≤g∧g<w.heap.size:=by
 rcases h.2 with ⟨q,_⟩ | ⟨g',c1,cur,h1,hb,hg,r⟩
 ·simp only [Value.slice.injEq] at q
  rw [e] at q
  simp at q
 ·simp only [Value.slice.injEq] at h1
  have e2:=h1.1.symm.trans e
  simp only [Option.some.injEq,Addr.mk.injEq] at e2
  rw [← e2.1]
  exact ⟨hb,(Array.getElem?_eq_some_iff.1 hg).1⟩
theorem OwnC.inC {B:Nat}{w:World}{a1:Option Addr}{n1 c1:Nat}{a2:Option Addr}{n2 c2:Nat}{a3:Option Addr}{n3 c3:Nat}{v1:List Value}{sl:Nat→Sl}{pv:Nat→List Value}{vs:List Value}{bs:List Int}(h:OwnC B w a1 n1 c1 a2 n2 c2 a3 n3 c3 v1 sl pv vs bs):InC (fun i=>B≤i∧i<w.heap.size) a1 n1 a2 n2 a3 sl :=
 ⟨fun g e hp=>ownsRow_in (h.nm hp) g e,fun g e _=>ownsRow_in h.en.row g e,fun j hj g e hp=>ownsRow_in (h.en.each j hj hp) g e,fun g e=>ownsRow_in h.sg.row g e⟩
def S2 (a2:Option Addr)(n2:Nat)(sl:Nat→Sl)(i:Nat):Prop:=(0<n2∧a2=some ⟨i,0,none⟩)∨∃ j,j<n2∧0<(sl j).2.1∧(sl j).1=some ⟨i,0,none⟩
theorem OwnC.step1 {B:Nat}{w w1:World}{a1:Option Addr}{n1 c1:Nat}{a2:Option Addr}{n2 c2:Nat}{a3:Option Addr}{n3 c3:Nat}{v1 u1:List Value}{sl:Nat→Sl}{pv:Nat→List Value}{vs:List Value}{bs:List Int}(h:OwnC B w a1 n1 c1 a2 n2 c2 a3 n3 c3 v1 sl pv vs bs)
  (ho:0<n1→w1.ownsRow B 132 2 (.slice a1 n1 c1) n1 u1) (ht:TouchA a1 n1 w w1):OwnC B w1 a1 n1 c1 a2 n2 c2 a3 n3 c3 u1 sl pv vs bs :=
 ⟨ho,h.en.keepS (ht.touchS (S:=fun i=>0<n1∧a1=some ⟨i,0,none⟩) (fun g e hp=>⟨hp,e⟩)) (fun g e _ q=>ownsRow_ne (h.nm q.1) h.en.row (by decide) q.1 (q.2.trans e.symm)) (fun j hj hp g e _ q=>h.ap j hj q.1 hp (q.2.trans e.symm)),
  ⟨ownsRow_keepA h.sg.row ht (fun hp=>ownsRow_ne (h.nm hp) h.sg.row (by decide) hp),h.sg.byte⟩,h.ap⟩
theorem OwnC.step2 {B:Nat}{w w1:World}{a1:Option Addr}{n1 c1:Nat}{a2:Option Addr}{n2 c2:Nat}{a3:Option Addr}{n3 c3:Nat}{v1:List Value}{sl:Nat→Sl}{pv pu:Nat→List Value}{vs us:List Value}{bs:List Int}(h:OwnC B w a1 n1 c1 a2 n2 c2 a3 n3 c3 v1 sl pv vs bs)
  (ho:OwnQ B w1 a2 n2 c2 sl pu us) (ht:TouchS (S2 a2 n2 sl) w w1):OwnC B w1 a1 n1 c1 a2 n2 c2 a3 n3 c3 v1 sl pu us bs:=by
 refine ⟨fun hp=>ownsRow_keepS (h.nm hp) ht ?_,ho,⟨ownsRow_keepS h.sg.row ht ?_,h.sg.byte⟩,h.ap⟩
 ·rintro g e _ (⟨_,e2⟩ | ⟨j,hj,hp2,e2⟩)
  ·exact ownsRow_ne (h.nm hp) h.en.row (by decide) hp (e.trans e2.symm)
  ·exact h.ap j hj hp hp2 (e.trans e2.symm)
 ·rintro g e _ (⟨hp2,e2⟩ | ⟨j,hj,hp2,e2⟩)
  ·exact ownsRow_ne h.en.row h.sg.row (by decide) hp2 (e2.trans e.symm)
  ·exact ownsRow_ne (h.en.each j hj hp2) h.sg.row (by decide) hp2 (e2.trans e.symm)
theorem OwnC.step3 {B:Nat}{w w1:World}{a1:Option Addr}{n1 c1:Nat}{a2:Option Addr}{n2 c2:Nat}{a3:Option Addr}{n3 c3:Nat}{v1:List Value}{sl:Nat→Sl}{pv:Nat→List Value}{vs:List Value}{bs us:List Int}(h:OwnC B w a1 n1 c1 a2 n2 c2 a3 n3 c3 v1 sl pv vs bs)
  (ho:Own B w1 a3 n3 c3 us) (ht:TouchS (fun i=>a3=some ⟨i,0,none⟩) w w1):OwnC B w1 a1 n1 c1 a2 n2 c2 a3 n3 c3 v1 sl pv vs us :=
 ⟨fun hp=>ownsRow_keepS (h.nm hp) ht (fun g e _ q=>ownsRow_ne (h.nm hp) h.sg.row (by decide) hp (e.trans q.symm)),
  ⟨ownsRow_keepS h.en.row ht (fun g e _ q=>by
   have h1:=h.en.row
   have h3:=h.sg.row
   rcases h1.2 with ⟨z,_⟩ | ⟨g1,k1,cur,y1,_,hg1,_⟩
   ·simp only [Value.slice.injEq] at z; rw [e] at z; simp at z
   ·rcases h3.2 with ⟨z,_⟩ | ⟨g3,k3,cur3,y3,_,hg3,_⟩
    ·simp only [Value.slice.injEq] at z; rw [q] at z; simp at z
    ·simp only [Value.slice.injEq] at y1 y3
     have e1:=y1.1.symm.trans e
     have e3:=y3.1.symm.trans q
     simp only [Option.some.injEq,Addr.mk.injEq] at e1 e3
     rw [e1.1] at hg1
     rw [e3.1,hg1] at hg3
     simp only [Option.some.injEq,Obj.cells.injEq] at hg3
     exact absurd hg3.2.1 (by decide)),h.en.at0,
  fun j hj hp=>ownsRow_keepS (h.en.each j hj hp) ht (fun g e _ q=>ownsRow_ne (h.en.each j hj hp) h.sg.row (by decide) hp (e.trans q.symm)),h.en.apart⟩,ho,h.ap⟩
theorem touchS_grown {w w':World}{a:Option Addr}{n c:Nat}(h:w.grownBy w' (Value.slice a n c).ownBlock)(hz:∀ g,(Value.slice a n c).ownBlock=some g→a=some ⟨g,0,none⟩):TouchS (fun i=>a=some ⟨i,0,none⟩) w w' :=
 ⟨h.os,h.tape,h.output,h.size,fun i hi ho=>h.block i hi (fun e=>ho (hz i e.symm))⟩
open Go.RowKit
def alikeP (x y:PT):Prop:=x.attr=y.attr∧FS x.val=FS y.val
def underP (xs ys:List PT):Prop:=nameP xs∧nameP ys∧ys.length≤xs.length∧∀ k,k<ys.length→alikeP (xs.getD k default) (ys.getD k default)
end Go.Proofs.YtnmplldhdfingaaGreatDoor
