import Derived.Handy
import Derived.Test.YtmdfbnlgfhjnoaaGreatDoorFD14
import Derived.Test.YtmdfbnlgfhjnoaaGreatDoorFD15
set_option maxRecDepth 10000
set_option maxHeartbeats 8000000
set_option linter.unusedVariables false
namespace Go.Proofs.YtmdfbnlgfhjnoaaGreatDoor
open Go.RowKit
theorem list_two {L:List ByteArray}(h:L.length=2):L = [L.getD 0 ByteArray.empty,L.getD 1 ByteArray.empty]:=by
 match L,h with
 | [a,b],_=>rfl
def mailR (s x y:ByteArray)(ok:Bool):Prop:=(ok=true∧cutAt s 64 = [x,y])∨(ok=false∧(cutAt s 64).length≠2)
theorem below_drewM {B:Nat}{w w':World}(h:Below B w w')(n:Nat):Below B w (w'.drewN n):=by
 induction n with
 | zero=>simpa [World.drewN] using h
 | succ n ih=>exact ih.drew
theorem l6Mail_any (s:ByteArray)(w:World)(hs:s.size≤1048576):Calls Tryz.prog 206 #[.string s] w fun e w'=>∃ x y ok,e=.returned (.tuple #[.string x,.string y,.bool ok])∧Hid (mailR s x y ok)∧x.size≤s.size∧y.size≤s.size∧Below w.heap.size w w':=by
 go_enter Tryz.func206,Tryz.ntmps206
 go_wp2_with fail
 refine (l5Split_any s 64 _ hs).mono ?_
 rintro e w1 ⟨a,n,cap,rfl,hn,HS0,hb⟩
 by_cases h2:n=2
 ·have e2:=list_two (hn.symm.trans h2)
  subst h2
  obtain ⟨g,rfl,hg,hcell⟩:=HS0.get (by omega)
  obtain ⟨hc1,hc2⟩:=HS0.caps
  have c0:=hcell 0 (by decide)
  have c1:=hcell 1 (by decide)
  have y0:=cut_size s 64 0
  have y1:=cut_size s 64 1
  obtain ⟨x,hx⟩:∃ x,x=(cutAt s 64).getD 0 ByteArray.empty:=⟨_,rfl⟩
  obtain ⟨y,hy⟩:∃ y,y=(cutAt s 64).getD 1 ByteArray.empty:=⟨_,rfl⟩
  rw [← hx] at c0 e2 y0
  rw [← hy] at c1 e2 y1
  have HE:Hid (mailR s x y true):=.inl ⟨rfl,e2⟩
  clear hx hy e2 hcell HS0 hn
  go_wp2
  go_quiet (fail)
  go_wp2
  go_ret3
  first
   | exact ⟨x,y,true,rfl,HE,y0,y1,hb⟩
   | exact ⟨x,y,true,rfl,HE,y0,y1,hb.drew⟩
   | exact ⟨x,y,true,rfl,HE,y0,y1,below_drewM hb _⟩
 ·have HE:Hid (mailR s ByteArray.empty ByteArray.empty false):=.inr ⟨rfl,fun h=>h2 (hn.trans h)⟩
  have z:((n:Int) != 2)=true:=bne_iff_ne.2 (by omega)
  clear HS0 hn h2
  go_wp2
  go_ret3
  exact ⟨ByteArray.empty,ByteArray.empty,false,rfl,HE,Nat.zero_le _,Nat.zero_le _,hb⟩
theorem mailR_t {s x y:ByteArray}(h:mailR s x y true):mailP s↔localP x∧hostP y false:=by
 rcases h with ⟨_,h⟩ | ⟨h,_⟩
 ·constructor
  ·rintro ⟨a,b,e,h1,h2⟩
   rw [h] at e
   obtain ⟨rfl,e2⟩:=List.cons.inj e
   obtain ⟨rfl,_⟩:=List.cons.inj e2
   exact ⟨h1,h2⟩
  ·rintro ⟨h1,h2⟩
   exact ⟨x,y,h,h1,h2⟩
 ·cases h
theorem mailR_f {s x y:ByteArray}(h:mailR s x y false):¬ mailP s:=by
 rcases h with ⟨h,_⟩ | ⟨_,h⟩
 ·cases h
 ·rintro ⟨a,b,e,_⟩
  rw [e] at h
  exact h rfl
theorem l6MailOk_any (s:ByteArray)(w:World)(hs:s.size≤1048576):Calls Tryz.prog 176 #[.string s] w (SaysB (mailP s) w):=by
 go_enter Tryz.func176,Tryz.ntmps176
 go_wp2_with fail
 refine (l6Mail_any s _ hs).mono ?_
 rintro e w1 ⟨x,y,ok,rfl,HR,hx,hy,hb⟩
 cases ok with
 | false =>
  have HN:Hid (¬ mailP s):=mailR_f HR.out
  clear HR
  go_wp2
  go_ret
  exact saysB_f HN.out hb
 | true =>
  have HI:Hid (mailP s↔localP x∧hostP y false):=mailR_t HR.out
  clear HR
  go_wp2_with fail
  refine (l6Local_any x _ (by omega)).mono ?_
  rintro e w2 ⟨b1,rfl,HV1,hw2⟩
  subst hw2
  cases b1 with
  | false =>
   have HN:Hid (¬ mailP s):=fun h=>Bool.false_ne_true (HV1.out.2 (HI.out.1 h).1)
   clear HV1 HI
   go_wp2
   go_ret
   exact saysB_f HN.out hb
  | true =>
   have HI2:Hid (mailP s↔hostP y false):=⟨fun h=>(HI.out.1 h).2,fun h=>HI.out.2 ⟨HV1.out.1 rfl,h⟩⟩
   clear HV1 HI
   go_wp2_with fail
   refine (specHostOk_any y false _).mono ?_
   rintro e w3 ⟨b2,rfl,HV2,hb2⟩
   have hb3:Below w.heap.size w w3:=hb.trans (hb2.mono hb.size)
   cases b2 with
   | false =>
    have HN:Hid (¬ mailP s):=fun h=>Bool.false_ne_true (HV2.out.2 (HI2.out.1 h))
    clear HV2 HI2
    go_wp2
    go_ret
    exact saysB_f HN.out hb3
   | true =>
    have HN:Hid (mailP s):=HI2.out.2 (HV2.out.1 rfl)
    clear HV2 HI2
    go_wp2
    go_ret
    exact saysB_t HN.out hb3
open Go.RowKit
def flat (ps:List (Int × Int)):List Value:=ps.flatMap fun p=>[Value.int .i64 p.1,.int .i64 p.2]
theorem flat_cons (p:Int × Int)(r:List (Int × Int)):flat (p::r)=Value.int .i64 p.1::.int .i64 p.2::flat r:=rfl
theorem flat_len (ps:List (Int × Int)):(flat ps).length=ps.length * 2:=by
 induction ps with
 | nil=>rfl
 | cons p r ih=>rw [flat_cons]; simp [ih]; omega
theorem flat_get (ps:List (Int × Int)):∀ k,k<ps.length→(flat ps)[k * 2]? = some (.int .i64 (ps.getD k (0,0)).1)∧(flat ps)[k * 2+1]? = some (.int .i64 (ps.getD k (0,0)).2):=by
 induction ps with
 | nil=>intro k h; simp at h
 | cons p r ih =>
  intro k h
  cases k with
  | zero=>simp [flat_cons]
  | succ k =>
   have:=ih k (by simpa using h)
   rw [flat_cons,show (k+1) * 2=k * 2+1+1 by omega]
   simpa using this
def Pre2 (vs:List Value)(ps:List (Int × Int))(k:Nat):Prop:=∀ j,j<k→vs[j * 2]? = some (.int .i64 (ps.getD j (0,0)).1)∧vs[j * 2+1]? = some (.int .i64 (ps.getD j (0,0)).2)
theorem Pre2.set {vs:List Value}{ps:List (Int × Int)}{k:Nat}(h:Pre2 vs ps k)(hk:k * 2+1<vs.length):Pre2 ((vs.set (k * 2) (.int .i64 (ps.getD k (0,0)).1)).set (k * 2+1) (.int .i64 (ps.getD k (0,0)).2)) ps (k+1):=by
 intro j hj
 by_cases e:j=k
 ·subst e
  refine ⟨?_,?_⟩
  ·rw [List.getElem?_set_ne (by omega),List.getElem?_set_self (by omega)]
  ·rw [List.getElem?_set_self (by simp; omega)]
 ·have h1:=h j (by omega)
  refine ⟨?_,?_⟩
  ·rw [List.getElem?_set_ne (by omega),List.getElem?_set_ne (by omega)]; exact h1.1
  ·rw [List.getElem?_set_ne (by omega),List.getElem?_set_ne (by omega)]; exact h1.2
theorem Pre2.all {vs:List Value}{ps:List (Int × Int)}{n:Nat}(h:Pre2 vs ps n)(hv:vs.length=n * 2)(hp:ps.length=n):vs=flat ps:=by
 apply List.ext_getElem?
 intro i
 by_cases hi:i<n * 2
 ·have h1:=h (i / 2) (by omega)
  have h2:=flat_get ps (i / 2) (by omega)
  rcases Nat.mod_two_eq_zero_or_one i with e | e
  ·have ei:i / 2 * 2=i:=by omega
   rw [ei] at h1 h2
   exact h1.1.trans h2.1.symm
  ·have ei:i / 2 * 2+1=i:=by omega
   rw [ei] at h1 h2
   exact h1.2.trans h2.2.symm
 ·rw [List.getElem?_eq_none (by omega),List.getElem?_eq_none (by rw [flat_len]; omega)]
structure OwnPm (lo hi:Nat)(w:World)(a:Option Addr)(n cap:Nat)(ps:List (Int × Int)):Prop where
 row:w.ownsRow lo 115 2 (.slice a n cap) n (flat ps)
 max:n≤9223372036854775807
 lt:∀ x,a=some x→x.block<hi
theorem OwnPm.len {lo hi:Nat}{w:World}{a:Option Addr}{n cap:Nat}{ps:List (Int × Int)}(h:OwnPm lo hi w a n cap ps):ps.length=n:=by
 have:=h.row.1
 rw [flat_len] at this
 omega
theorem OwnPm.toPms {lo hi:Nat}{w:World}{a:Option Addr}{n cap:Nat}{ps:List (Int × Int)}(h:OwnPm lo hi w a n cap ps):Pms w a n ps:=by
 refine ⟨h.len,h.max,fun k hk=>?_⟩
 have hf:=flat_get ps k (by rw [h.len]; exact hk)
 rcases h.row.2 with ⟨_,h0⟩ | ⟨g,cap',cur,hv,hb,hg,_⟩
 ·omega
 ·simp only [Value.slice.injEq] at hv
  obtain ⟨rfl,_,rfl⟩:=hv
  exact ⟨g,0,rfl,(Array.getElem?_eq_some_iff.1 hg).1,by rw [Nat.zero_add,h.row.cellAt _ (by omega)]; exact hf.1,by rw [Nat.zero_add,h.row.cellAt _ (by omega)]; exact hf.2⟩
theorem Tryz.infoPolMap:(Tryz.prog.info? 115).map (fun i=>(i.zero,i.size,i.bytes))=some (some (.agg #[.int .i64 0,.int .i64 0]),2,16):=by kernel_rfl
theorem results_pm {fn:Func}{t:Tmp}(h:fn.results=#[.cell t 115])(tmps:Array Value)(g:Nat)(ht:tmps.getD t undef=.pointer (some ⟨g,0,none⟩))(w:World)(p:Int × Int)
  (hb:w.heap[g]? = some (.cells #[.int .i64 p.1,.int .i64 p.2] 115 (0,0))):(results fn tmps).run Tryz.prog w=.ok (pmv p) w:=by
 have d0:w.cell? ⟨g,0,none⟩=some (.int .i64 p.1):=qk hb rfl
 have d1:w.cell? ⟨g,1,none⟩=some (.int .i64 p.2):=qk hb rfl
 clear hb
 have ht':tmps[t]?.getD undef=.pointer (some ⟨g,0,none⟩):=by rw [← ht]; simp
 simp [results,h,go_sem,ht',d0,d1,pmv]
theorem alloc_oldP (w:World)(o:Obj)(g:Nat)(hg:g<w.heap.size):(w.alloc o).heap[g]? = w.heap[g]?:=((Below.refl w.heap.size w).alloc (Nat.le_refl _) o).block g hg
theorem toPolMap_any (p:Int × Int)(w:World) :
  Calls Tryz.prog 92 #[pmv p] w fun e w'=>e=.returned (pmv p)∧Below w.heap.size w w':=by
 obtain ⟨a,b⟩:=p
 have b1:((((w.alloc (.cells #[.int .i64 a,.int .i64 b] 130)).alloc (.cells #[.int .i64 a,.int .i64 b] 115)).alloc (.cells #[.int .i64 a,.int .i64 b] 115))).heap[w.heap.size+1]? = some (.cells #[.int .i64 a,.int .i64 b] 115):=by
  have s1:(w.alloc (.cells #[.int .i64 a,.int .i64 b] 130)).heap.size=w.heap.size+1:=by simp
  exact (alloc_oldP _ _ _ (by simp)).trans (by rw [← s1]; exact heap_alloc_new _ _)
 have HB1:Hid (_=_):=b1
 clear b1
 unfold pmv
 go_enter Tryz.func92,Tryz.ntmps92
 go_wp2
 try simp only [Exit.inBlock,Exit.then]
 exact bodyPost_ret (results_pm (p:=(a,b)) rfl _ (w.heap.size+1) rfl _ HB1.out) rfl ⟨rfl,(((Below.refl _ _).alloc (Nat.le_refl _) _).alloc (by simp) _).alloc (by simp; omega) _⟩
theorem toPolMapS_any (a:Option Addr)(n c:Nat)(ps:List (Int × Int))(w:World)(h:Pms w a n ps)(hn:n≤1048576) :
  Calls Tryz.prog 41 #[.slice a n c] w fun e w'=>∃ ar,e=.returned (.slice ar n n)∧OwnPm w.heap.size w'.heap.size w' ar n n ps∧Below w.heap.size w w':=by
 obtain ⟨i0,hi,hz0,hz1,hz2⟩:=info_parts Tryz.infoPolMap
 have H0:Hid (Pms w a n ps):=h
 have HL:Hid (ps.length=n):=h.len
 clear h
 go_enter Tryz.func41,Tryz.ntmps41
 go_wp2_with (first | (at_make; refine wpList_make_full _ rfl _ _ 43 rfl w.heap.size 115 i0 _ 2 Tryz.underlying43 hi hz0 hz1 _ _ _ _ n rfl rfl rfl rfl (by rw [hz2]; omega) (by unfold maxLen; omega) (by exact Nat.le_refl _) ?_; intro w2 hown hgrow))
 have hbl:Below w.heap.size w w2:=(Below.refl _ _).grown hgrow (Nat.le_refl _) (by simp)
 clear hgrow hi hz0 hz1 hz2
 go_loopw [4] (fun i wr=>∃ k:Nat,k≤n∧i=.int .i64 k∧(∃ vs,wr.ownsRow w.heap.size 115 2 (.slice (some ⟨w.heap.size,0,none⟩) n n) n vs∧Pre2 vs ps k)∧Below w.heap.size w wr) (fun i _=>n - (intOf i).toNat)
 case atStart=>exact ⟨0,Nat.zero_le _,rfl,⟨_,hown,fun j hj=>absurd hj (Nat.not_lt_zero _)⟩,hbl⟩
 case round =>
  obtain ⟨k,hk,rfl,⟨vs,hor,hpre⟩,hbr⟩:=hrel
  by_cases hkn:k<n
  ·obtain ⟨b,off,rfl,hlb,x0,x1⟩:=(H0.out.kept hbr).get k hkn
   obtain ⟨p,hp⟩:∃ p,p=ps.getD k (0,0):=⟨_,rfl⟩
   rw [← hp] at x0 x1
   have HP:Hid (ps.getD k (0,0)=p):=hp.symm
   have hkni:(k:Int)<(n:Int):=by omega
   have HPRE:Hid (Pre2 vs ps k):=hpre
   have HOR:Hid (_):=hor
   have hws:=hbr.size
   clear hp hpre hor hown hbl
   go_wp2_with fail
   refine (toPolMap_any p _).mono ?_
   rintro e w3 ⟨rfl,hb3⟩
   have hor3:=ownsRow_below HOR.out hb3
   have hvl:vs.length=n * 2:=hor3.1
   have f0:w3.frozen? ⟨w.heap.size,k * 2,none⟩=false:=hor3.frozenAt _
   have f1:w3.frozen? ⟨w.heap.size,k * 2+1,none⟩=false:=hor3.frozenAt _
   obtain ⟨y0,hy0⟩:∃ y,w3.cell? ⟨w.heap.size,k * 2,none⟩=some y:=⟨_,(hor3.cellAt _ (by omega)).trans (List.getElem?_eq_getElem (by omega))⟩
   obtain ⟨y1,hy1⟩:∃ y,w3.cell? ⟨w.heap.size,k * 2+1,none⟩=some y:=⟨_,(hor3.cellAt _ (by omega)).trans (List.getElem?_eq_getElem (by omega))⟩
   have hP:=HPRE.out.set (by omega)
   rw [HP.out] at hP
   have hO:=((hor3.stored (k * 2) (.int .i64 p.1)).1.stored (k * 2+1) (.int .i64 p.2)).1
   have hB:Below w.heap.size w ((w3.setCell ⟨w.heap.size,k * 2,none⟩ (.int .i64 p.1)).setCell ⟨w.heap.size,k * 2+1,none⟩ (.int .i64 p.2)):=((keepP hbr hb3).setCell (Nat.le_refl _) _).setCell (Nat.le_refl _) _
   have FIN:Hid (_∧_∧_):=⟨hO,hP,hB⟩
   clear hP hO hB hor3 hb3 hbr HPRE HOR
   rw [pmv]
   go_wp2
   go_roundw
   case rel=>exact ⟨k+1,by omega,by go_num,⟨_,FIN.out.1,FIN.out.2.1⟩,FIN.out.2.2⟩
   case measure=>simp [intOf]; omega
  ·obtain rfl:k=n:=by omega
   have hvs:=hpre.all hor.1 HL.out
   rw [hvs] at hor
   have FIN:Hid (OwnPm w.heap.size wr.heap.size wr (some ⟨w.heap.size,0,none⟩) k k ps∧_):=⟨⟨hor,by omega,fun x hx=>by cases hx; exact (hor.lt _ rfl).2⟩,hbr⟩
   clear hor hpre hbr hvs hown hbl
   go_wp2
   go_ret
   exact ⟨_,rfl,FIN.out.1,FIN.out.2⟩
end Go.Proofs.YtmdfbnlgfhjnoaaGreatDoor
