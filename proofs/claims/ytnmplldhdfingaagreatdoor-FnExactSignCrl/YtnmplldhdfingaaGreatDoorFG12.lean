import Derived.Lib.AppendZeros
import Derived.Test.YtnmplldhdfingaaGreatDoorFG11
set_option maxRecDepth 10000
set_option maxHeartbeats 8000000
set_option linter.unusedVariables false
namespace Go.Proofs.YtnmplldhdfingaaGreatDoor
open Go.RowKit
theorem markByteS_big (B:Nat)(a:Option Addr)(n cap k:Nat)(bs:List Int)(w:World)(h:Own B w a n cap bs)(hn:n≤4000000000000000)(hk:k≤4000000000000000) :
  Calls Tryz.prog 32 #[.slice a n cap,.int .i64 k] w fun e w'=>e=.returned (.int .i64 (k+n:Nat))∧Own B w' a n cap (marks k n)∧w.grownBy w' (Value.slice a n cap).ownBlock:=by
 have HL:Hid (bs.length=n):=h.length
 have H0:Hid (Own B w a n cap bs):=h
 clear h
 go_enter Tryz.func32,Tryz.ntmps32
 go_wp2
 go_loopw [1,5] (fun kk i wr=>∃ j:Nat,j≤n∧i=.int .i64 j∧kk=.int .i64 (k+j:Nat)∧Own B wr a n cap (mkd bs k j)∧w.grownBy wr (Value.slice a n cap).ownBlock) (fun _ i _=>n - (intOf i).toNat)
 case atStart=>exact ⟨0,Nat.zero_le _,rfl,rfl,by rw [mkd_zero]; exact H0.out,World.grownBy.refl _ _⟩
 case round =>
  obtain ⟨j,hj,rfl,rfl,hor,hgr⟩:=hrel
  by_cases hlt:j<n
  ·obtain ⟨g,rfl⟩:=hor.shape (by omega)
   have hfr:wr.frozen? ⟨g,j,none⟩=false:=hor.row.frozenAt j
   obtain ⟨y,hy⟩:∃ y,wr.cell? ⟨g,j,none⟩=some y:=⟨_,(hor.row.cellAt j (by omega)).trans (List.getElem?_eq_getElem (by simp [mkd_len bs k j (by have:=HL.out; omega),HL.out]; exact hlt))⟩
   have hs:=hor.store j (((k+j:Nat):Int) % 256) (by omega)
   rw [mkd_set bs k j (by have:=HL.out; omega)] at hs
   have hg2:=grown_trans hgr (hor.row.stored j (.int .u8 (((k+j:Nat):Int) % 256))).2
   clear hor hgr
   have e0:((k+j:Nat):Int)=(k:Int)+(j:Int):=by omega
   have HS:Hid (Own B (wr.setCell ⟨g,j,none⟩ (.int .u8 (((k+j:Nat):Int) % 256))) (some ⟨g,0,none⟩) n cap (mkd bs k (j+1))):=hs
   have HG:Hid (w.grownBy (wr.setCell ⟨g,j,none⟩ (.int .u8 (((k+j:Nat):Int) % 256))) (Value.slice (some ⟨g,0,none⟩) n cap).ownBlock):=hg2
   clear hs hg2 e0
   go_wp2
   go_roundw
   case rel=>exact ⟨j+1,by omega,by go_num,by go_num,by have:=HS.out; rw [Int.natCast_add] at this; exact this,by have:=HG.out; rw [Int.natCast_add] at this; exact this⟩
   case measure=>simp [intOf]; omega
  ·have hjn:j=n:=by omega
   subst hjn
   go_wp2
   go_ret
   exact ⟨rfl,by rw [← HL.out,mkd_all,HL.out] at hor; exact hor,hgr⟩
theorem heldByteS_big (a:Option Addr)(n cap k:Nat)(w:World)(h:Row w a n (marks k n))(hn:n≤4000000000000000)(hk:k≤4000000000000000) :
  Calls Tryz.prog 35 #[.slice a n cap,.int .i64 k] w fun e w'=>e=.returned (.int .i64 (k+n:Nat))∧w'=w:=by
 have H0:Hid (Row w a n (marks k n)):=h
 clear h
 go_enter Tryz.func35,Tryz.ntmps35
 go_wp2
 go_loop [1,5] (fun kk i=>∃ j:Nat,j≤n∧i=.int .i64 j∧kk=.int .i64 (k+j:Nat)) (fun _ i=>n - (intOf i).toNat)
 case atStart=>exact ⟨0,Nat.zero_le _,rfl,rfl⟩
 case round =>
  obtain ⟨j,hj,rfl,rfl⟩:=hrel
  by_cases hlt:j<n
  ·obtain ⟨b,off,rfl,hb,hc⟩:=H0.out.get j hlt
   rw [marks_get k n j hlt,Int.natCast_add] at hc
   go_wp2
   go_round
   case rel=>exact ⟨j+1,by omega,by go_num,by go_num⟩
   case measure=>simp [intOf]; omega
  ·have hjn:j=n:=by omega
   subst hjn
   go_wp2
   go_ret
   exact ⟨rfl,rfl⟩
open Go.RowKit
structure Row64 (w:World)(a:Option Addr)(n:Nat)(zs:List Int):Prop where
 len:zs.length=n
 get:∀ k,k<n→∃ b off,a=some ⟨b,off,none⟩∧b<w.heap.size∧w.cell? ⟨b,off+k,none⟩=some (.int .i64 (zs.getD k 0))
theorem Tryz.info2:(Tryz.prog.info? 2).map (fun i=>(i.zero,i.size,i.bytes))=some (some (.int .i64 0),1,8):=by kernel_rfl
open Go.RowKit
theorem rowU_cells {w:World}{ad:Addr}{m:Nat}{ys:List Int}(h:RowU w (some ad) m ys):∀ j u,(ys.map (Value.int .u64))[j]? = some u→w.cell? (ad.add j)=some u:=by
 intro j u hj
 have hjl:j<ys.length:=by
  have:=(List.getElem?_eq_some_iff.1 hj).1
  simpa using this
 obtain ⟨b,off,ha,_,hc⟩:=h.get j (by rw [← h.len]; exact hjl)
 simp only [Option.some.injEq] at ha
 subst ha
 rw [Addr.add_lit,hc]
 simp [hjl] at hj
 simp [hjl,hj]
theorem rowU_none {w:World}{m:Nat}{ys:List Int}(h:RowU w none m ys):m=0∧ys = []:=by
 rcases Nat.eq_zero_or_pos m with h0 | h0
 ·exact ⟨h0,List.eq_nil_of_length_eq_zero (by rw [h.len]; exact h0)⟩
 ·obtain ⟨b,off,ha,_⟩:=h.get 0 h0
  simp at ha
theorem wpList_append_rowU {P:Program}(w:World){ops:Array Oper}{rest:List Oper}{o:Oper}{a:Act}{Q:Exit→Act→World→Prop}
  (hg:o.guard=none) (s x:Operand) (t:TypeId) (hop:o.op=Op.call { callee:=Callee.builtin Builtin.append,args:=#[s,x],argTypes:=#[t,t] })
  (base:Nat) (i:TypeInfo) (h1:P.underlying t=some (.slice 29)) (h2:P.info? 29=some i) (h3:i.zero=some (.int .u64 0)) (h4:i.size=1) (h5:i.bytes=8)
  (v:Value) (n:Nat) (xs:List Value) (hs:a.eval s=v) (hown:w.ownsRow base 29 1 v n xs)
  (ao:Option Addr) (m c:Nat) (ys:List Int) (hx:a.eval x=.slice ao m c) (hrow:RowU w ao m ys) (hnil:ao=none→c=0)
  (b1:n+m≤1000000) (b3:base≤w.heap.size)
  (hK:∀ v' w',w'.ownsRow base 29 1 v' (n+m) (xs++ys.map (Value.int .u64))→w.grownBy w' v.ownBlock→wpList P ops Q rest (a.put o.dst v') w') :
  wpList P ops Q (o::rest) a w:=by
 cases ao with
 | some ad =>
  refine wpList_append_own w hg s x t hop base 29 i (.int .u64 0) 1 8 h1 h2 h3 h4 h5 rfl (by decide) v n xs hs hown ad m c (ys.map (Value.int .u64)) hx (by rw [List.length_map,hrow.len,Nat.mul_one]) (rowU_cells hrow) (ints_oneCell _ _) (by unfold maxLen; omega) (by omega) b3 ?_
  intro v' w' r1 r2 _
  exact hK v' w' r1 r2
 | none =>
  obtain ⟨rfl,rfl⟩:=rowU_none hrow
  obtain rfl:=hnil rfl
  refine wpList_append_own_none hg s x t hop base 29 i 1 h1 h2 v n xs hs hown hx ?_
  exact hK v w (by simpa using hown) (World.grownBy.refl _ _)
theorem u64_cat {xs ys:List Int}(h:∀ k,U64 (xs.getD k 0))(h':∀ k,U64 (ys.getD k 0)):∀ k,U64 ((xs++ys).getD k 0):=by
 intro k
 rw [List.getD_eq_getElem?_getD,List.getElem?_append]
 split
 ·simpa [List.getD_eq_getElem?_getD] using h k
 ·simpa [List.getD_eq_getElem?_getD] using h' (k - xs.length)
theorem growU_nil (n:Nat)(w:World)(h0:0<n)(hn:n≤100000) :
  Calls Tryz.prog 202 #[.slice none 0 0,.int .i64 n] w fun e w'=>∃ g c,e=.returned (.slice (some ⟨g,0,none⟩) 0 c)∧OwnU w.heap.size w' (some ⟨g,0,none⟩) 0 c []∧Below w.heap.size w w':=by
 obtain ⟨i0,hi,hz0,hz1,hz2⟩:=info_parts Tryz.infoU
 have hr:=Lib.run_append_nil_zeros (P:=Tryz.prog) w 83 3 83 29 i0 (.int .u64 0) .i64 .i64 Tryz.underlying83 Tryz.underlying3 hi hz0 n h0 (by omega) (by omega) (by rw [hz2]; omega)
 obtain ⟨C,hC⟩:∃ C,C=grownCap w n 0 29:=⟨_,rfl⟩
 rw [← hC] at hr
 obtain ⟨w1,hw1⟩:∃ w1,w1=w.drew.alloc (.cells (Builtin.zeroCells (Value.int .u64 0).cells n++Builtin.zeroCells (Value.int .u64 0).cells (C - n)) 29):=⟨_,rfl⟩
 rw [← hw1] at hr
 have hgc:n≤C∧C≤maxLen:=by rw [hC]; exact ⟨grownCap_ge _ _ _ _ ,grownCap_le_maxLen _ _ _ _ (by unfold maxLen; omega)⟩
 have hown:OwnU w.heap.size w1 (some ⟨w.heap.size,0,none⟩) 0 C []:=by
  refine ⟨⟨rfl,.inr ⟨w.heap.size,C,_,rfl,Nat.le_refl _,by rw [hw1]; exact heap_alloc_new w.drew _,Nat.zero_le _,hgc.2,?_,rfl⟩⟩,by simp [U64]⟩
  simp [Builtin.zeroCells,Value.cells]
  omega
 have hb1:Below w.heap.size w w1:=by rw [hw1]; exact ((Below.refl _ _).drew).alloc (Nat.le_refl _) _
 have HW:Hid (_=_):=hw1
 have HC:Hid (_=_):=hC
 clear hgc hw1 hC
 have HR:Hid (_=_):=hr
 clear hr
 go_enter Tryz.func202,Tryz.ntmps202
 go_wp2_with (first | (at_builtin; refine Lib.wpList_append_run _ rfl _ _ _ _ rfl _ _ rfl rfl _ _ HR.out ?_))
 go_ret
 exact ⟨_,_,rfl,hown,hb1⟩
theorem concatU_two (g:Nat)(a1:Option Addr)(n1 c1:Nat)(z1:List Int)(a2:Option Addr)(n2 c2:Nat)(z2:List Int)(w:World)(hb:w.heap[g]? = some (.cells #[.slice a1 n1 c1,.slice a2 n2 c2] 83))(h1:RowU w a1 n1 z1)(e1:a1=none→c1=0)(h2:RowU w a2 n2 z2)(e2:a2=none→c2=0)(hn0:0<n1)(hn:n1+n2≤1000) :
  Calls Tryz.prog 195 #[.slice (some ⟨g,0,none⟩) 2 2] w fun e w'=>∃ a c,e=.returned (.slice a (n1+n2) c)∧OwnU w.heap.size w' a (n1+n2) c (z1++z2)∧Below w.heap.size w w':=by
 obtain ⟨i0,hi,hz0,hz1,hz2⟩:=info_parts Tryz.infoU
 have hlg:g<w.heap.size:=(Array.getElem?_eq_some_iff.1 hb).1
 have s0:w.cell? ⟨g,0,none⟩=some (.slice a1 n1 c1):=qk hb rfl
 have s1:w.cell? ⟨g,1,none⟩=some (.slice a2 n2 c2):=qk hb rfl
 have HX:Hid (∀ w7,Below w.heap.size w w7→w7.cell? ⟨g,0,none⟩=some (.slice a1 n1 c1)∧w7.cell? ⟨g,1,none⟩=some (.slice a2 n2 c2)):=fun w7 h7=>⟨(h7.cell (p:=⟨g,0,none⟩) hlg).trans s0,(h7.cell (p:=⟨g,1,none⟩) hlg).trans s1⟩
 have H1:Hid (RowU w a1 n1 z1):=h1
 have H2:Hid (RowU w a2 n2 z2):=h2
 clear hb h1 h2
 go_enter Tryz.func195,Tryz.ntmps195
 go_wp2
 go_loop [3,11] (fun sz i=>(i=.int .i64 0∧sz=.int .i64 0)∨(i=.int .i64 1∧sz=.int .i64 n1)∨(i=.int .i64 2∧sz=.int .i64 (n1+n2:Nat))) (fun _ i=>2 - (intOf i).toNat)
 case atStart=>exact .inl ⟨rfl,rfl⟩
 case round =>
  rcases hrel with ⟨rfl,rfl⟩ | ⟨rfl,rfl⟩ | ⟨rfl,rfl⟩
  ·have zz:¬ ((n1:Int)<0):=by omega
   go_wp2
   go_round
   case rel=>exact .inr (.inl ⟨rfl,rfl⟩)
   case measure=>simp [intOf]
  ·have zz:¬ ((n1:Int)+(n2:Int)<0):=by omega
   go_wp2
   go_round
   case rel=>exact .inr (.inr ⟨rfl,by go_num⟩)
   case measure=>simp [intOf]
  ·go_wp2_with fail
   rw [show ((n1:Int)+(n2:Int))=((n1+n2:Nat):Int) from (Int.natCast_add _ _).symm]
   refine (growU_nil (n1+n2) _ (by omega) (by omega)).mono ?_
   rintro e w2 ⟨g2,cg,rfl,ho2,hb2⟩
   have HO2:Hid (_):=ho2
   clear s0 s1 ho2
   go_wp2
   go_loopw [6,27] (fun o i wr=>∃ (ao:Option Addr) (cc:Nat),Below w.heap.size w wr∧((i=.int .i64 0∧o=.slice ao 0 cc∧OwnU w.heap.size wr ao 0 cc [])∨(i=.int .i64 1∧o=.slice ao n1 cc∧OwnU w.heap.size wr ao n1 cc z1)∨(i=.int .i64 2∧o=.slice ao (n1+n2) cc∧OwnU w.heap.size wr ao (n1+n2) cc (z1++z2)))) (fun _ i _=>2 - (intOf i).toNat)
   case atStart=>exact ⟨_,_,hb2,.inl ⟨rfl,rfl,HO2.out⟩⟩
   case round =>
    obtain ⟨ao,cc,hbr,hh⟩:=hrel
    obtain ⟨s0,s1⟩:=HX.out _ hbr
    have HU1:Hid (RowU wr a1 n1 z1):=H1.out.kept hbr
    have HU2:Hid (RowU wr a2 n2 z2):=H2.out.kept hbr
    have hsz:=hbr.size
    rcases hh with ⟨rfl,rfl,ho⟩ | ⟨rfl,rfl,ho⟩ | ⟨rfl,rfl,ho⟩
    ·go_wp2_with (first | (refine wpList_append_rowU _ rfl _ _ 83 rfl w.heap.size i0 Tryz.underlying83 hi hz0 hz1 hz2 _ 0 _ rfl ho.row a1 n1 c1 z1 rfl HU1.out e1 (by omega) hsz ?_; intro v4 w4 hv4 hg4))
     have hbr4:Below w.heap.size w w4:=hbr.grown hg4 hsz (fun k hk=>(ho.row.lt k hk).1)
     rw [Nat.zero_add,List.map_nil,List.nil_append] at hv4
     obtain ⟨a4,c4,rfl,ho4⟩:=ownU_appended H1.out.rng hv4
     go_wp2
     go_roundw
     case rel=>exact ⟨a4,c4,hbr4,.inr (.inl ⟨rfl,rfl,ho4⟩)⟩
     case measure=>simp [intOf]
    ·go_wp2_with (first | (refine wpList_append_rowU _ rfl _ _ 83 rfl w.heap.size i0 Tryz.underlying83 hi hz0 hz1 hz2 _ n1 _ rfl ho.row a2 n2 c2 z2 rfl HU2.out e2 (by omega) hsz ?_; intro v4 w4 hv4 hg4))
     have hbr4:Below w.heap.size w w4:=hbr.grown hg4 hsz (fun k hk=>(ho.row.lt k hk).1)
     rw [← List.map_append] at hv4
     obtain ⟨a4,c4,rfl,ho4⟩:=ownU_appended (u64_cat H1.out.rng H2.out.rng) hv4
     go_wp2
     go_roundw
     case rel=>exact ⟨a4,c4,hbr4,.inr (.inr ⟨rfl,rfl,ho4⟩)⟩
     case measure=>simp [intOf]
    ·have HO:Hid (_):=ho
     clear ho
     go_wp2
     go_ret
     exact ⟨_,_,rfl,HO.out,hbr⟩
open Go.RowKit
theorem wraps_u64' (n:Int)(h₀:0≤n)(h₁:n<2 ^ 64):IntKind.u64.wrap n=n:=by rw [IntKind.wrap_u64]; omega
theorem and15 (x:Int)(hx:0≤x)(hx':x≤18446744073709551615):bits .and .u64 x 15=x % 16:=bits_mask .u64 64 (by decide) wraps_u64' 4 (by decide) x hx (by omega)
theorem and15i (x:Int)(hx:0≤x)(hx':x≤9223372036854775807):bits .and .i64 x 15=x % 16:=bits_mask .i64 63 (by decide) wraps_i64' 4 (by decide) x hx (by omega)
def digI (h:Int)(i:Nat):Int:=h / (16:Int) ^ (15 - i) % 16
theorem digI_bd (h:Int)(i:Nat):0≤digI h i∧digI h i≤15:=by unfold digI; omega
def sumF (h:Int):Nat→Int
 | 0=>0
 | k+1=>sumF h k+(15 - digI h (15 - k))
theorem sumF_bd (h:Int)(k:Nat):0≤sumF h k∧sumF h k≤15 * (k:Int):=by
 induction k with
 | zero=>simp [sumF]
 | succ k ih=>have:=digI_bd h (15 - k); rw [sumF]; omega
def sumU (h:Int):Nat→Int
 | 0=>0
 | k+1=>sumU h k+(15 - digI h k)
theorem sumU_bd (h:Int)(k:Nat):0≤sumU h k∧sumU h k≤15 * (k:Int):=by
 induction k with
 | zero=>simp [sumU]
 | succ k ih=>have:=digI_bd h k; rw [sumU]; omega
theorem sum_same (h:Int):sumU h 16=sumF h 16:=by
 simp only [sumU,sumF,Nat.reduceSub]
 omega
def dgL (h:Int)(q:Nat):List Int:=(List.range 18).map fun i=>if q≤i∧i<16 then digI h i else 0
theorem dgL_len (h:Int)(q:Nat):(dgL h q).length=18:=by simp [dgL]
theorem dgL_set (h:Int)(q:Nat)(hq:q<16):(dgL h (q+1)).set q (digI h q)=dgL h q:=by
 apply List.ext_getElem?
 intro i
 rw [List.getElem?_set]
 simp only [dgL,List.length_map,List.length_range,List.getElem?_map]
 by_cases hi:i<18
 ·rw [List.getElem?_range hi]
  by_cases e:q=i
  ·subst e
   simp [hq]; omega
  ·simp only [e,if_false,Option.map_some]
   congr 1
   by_cases c:q≤i∧i<16
   ·rw [if_pos c,if_pos (by omega)]
   ·rw [if_neg c,if_neg (by omega)]
 ·rw [List.getElem?_eq_none (by simp; omega)]
  split
  ·omega
  ·rfl
def diL (h:Int):List Int:=(List.range 16).map (digI h)++[sumF h 16 / 16,sumF h 16 % 16]
theorem diL_len (h:Int):(diL h).length=18:=by simp [diL]
theorem diL_of (h:Int):((dgL h 0).set 16 (sumF h 16 / 16)).set 17 (sumF h 16 % 16)=diL h:=rfl
theorem diL_bd (h:Int):∀ k,0≤(diL h).getD k 0∧(diL h).getD k 0≤15:=by
 intro k
 have hs:=sumF_bd h 16
 unfold diL
 rw [List.getD_eq_getElem?_getD,List.getElem?_append]
 split
 ·rename_i hk
  simp only [List.length_map,List.length_range] at hk
  rw [List.getElem?_map,List.getElem?_range hk]
  exact digI_bd h k
 ·simp only [List.length_map,List.length_range]
  rcases hk:k - 16 with _ | _ | m
  ·simp; omega
  ·simp; omega
  ·simp
def vA (l:List Int):Array Value:=(l.map (Value.int .i64)).toArray
theorem vA_size (l:List Int):(vA l).size=l.length:=by simp [vA]
theorem vA_get (l:List Int)(k:Nat):(vA l)[k]? = (l[k]?).map (Value.int .i64):=by simp [vA]
theorem vA_set (l:List Int)(k:Nat)(x:Int):(vA l).setIfInBounds k (.int .i64 x)=vA (l.set k x):=by
 apply Array.ext'
 simp [vA,List.map_set]
theorem vA_one (l:List Int):((vA l).all fun x=>x.oneCell')=true:=by
 simp [vA]
 intro i hi
 rfl
theorem Tryz.info18:(Tryz.prog.info? 220).map (·.size)=some 18:=by kernel_rfl
theorem signedDigits_any (a:Option Addr)(n c:Nat)(bs:List Int)(w:World)(hr:Row w a n bs)(hn:n≤1000000000000) :
  Calls Tryz.prog 197 #[.slice a n c] w fun e w'=>e=.returned (.agg (vA (diL (hashL bs))))∧Below w.heap.size w w':=by
 have hU:=hashL_bd bs
 obtain ⟨h,hh⟩:∃ h,h=hashL bs:=⟨_,rfl⟩
 have HH:Hid (hashL bs=h):=hh.symm
 rw [← hh] at hU ⊢
 clear hh
 obtain ⟨wb,hwb⟩:∃ wb,wb=(w.alloc (.cells (vA (dgL h 16)) 220)).alloc (.cells (vA (dgL h 16)) 220):=⟨_,rfl⟩
 have hbb:Below w.heap.size w wb:=by rw [hwb]; exact ((Below.refl _ _).alloc (Nat.le_refl _) _).alloc (by simp) _
 have hg1:wb.heap[w.heap.size+1]? = some (.cells (vA (dgL h 16)) 220):=by rw [hwb]; exact heap_alloc2_new w _ _
 have hg0:wb.heap[w.heap.size]? = some (.cells (vA (dgL h 16)) 220):=by rw [hwb]; exact heap_alloc2_old w _ _
 have hz:vA (dgL h 16)=#[.int .i64 0,.int .i64 0,.int .i64 0,.int .i64 0,.int .i64 0,.int .i64 0,.int .i64 0,.int .i64 0,.int .i64 0,.int .i64 0,.int .i64 0,.int .i64 0,.int .i64 0,.int .i64 0,.int .i64 0,.int .i64 0,.int .i64 0,.int .i64 0]:=rfl
 have HWB:Hid (_=_):=hwb
 rw [hz] at HWB
 clear hwb hz
 go_enter Tryz.func197,Tryz.ntmps197
 go_upto_region 2 with fail
 rw [← HWB.out]
 clear HWB
 go_wp2_with fail
 refine (implHash_any a n c bs _ (hr.kept hbb) hn).mono ?_
 rintro e w1 ⟨rfl,hb1⟩
 rw [HH.out]
 have hl0:w.heap.size<wb.heap.size:=(Array.getElem?_eq_some_iff.1 hg0).1
 have hl1:w.heap.size+1<wb.heap.size:=(Array.getElem?_eq_some_iff.1 hg1).1
 have hg1':=(hb1.block _ hl1).trans hg1
 have hg0':=(hb1.block _ hl0).trans hg0
 have HB1:Hid (Below w.heap.size w w1):=keepT hbb hb1
 have HG1:Hid (_=_):=hg1'
 have HG0:Hid (_=_):=hg0'
 clear hg1' hg0' hg1 hg0 hb1 hbb hr HH
 go_wp2
 go_loopw [4,5,6] (fun r s i wr=>∃ (q:Nat) (x y:Int),q≤16∧i=.int .i64 ((q:Int) - 1)∧r=.int .u64 x∧s=.int .i64 y∧Hid (x=h / (16:Int) ^ (16 - q))∧Hid (y=sumF h (16 - q))∧Hid (wr.heap[w.heap.size+1]? = some (.cells (vA (dgL h q)) 220))∧Hid (wr.heap[w.heap.size]? = some (.cells (vA (dgL h 16)) 220))∧Hid (Below w.heap.size w wr)) (fun _ _ i _=>((intOf i)+1).toNat)
 case atStart=>exact ⟨16,h,0,Nat.le_refl _,rfl,rfl,rfl,by show _=_; simp,rfl,HG1,HG0,HB1⟩
 case round =>
  obtain ⟨q,x,y,hq,rfl,rfl,rfl,HX,HY,HA,HZ,HB⟩:=hrel
  clear HG1 HG0 HB1
  rcases q with _ | q
  ·have hy:=sumF_bd h 16
   rw [← show y=sumF h 16 from HY.out] at hy
   obtain ⟨hy0,hy1⟩:=hy
   have ha:=and15i y hy0 (by omega)
   have k16:wr.cell? ⟨w.heap.size+1,16,none⟩=some (.int .i64 0):=qk HA.out rfl
   have f16:wr.frozen? ⟨w.heap.size+1,16,none⟩=false:=frozen_of_row wr _ 16 _ 220 HA.out
   have k17:wr.cell? ⟨w.heap.size+1,17,none⟩=some (.int .i64 0):=qk HA.out rfl
   have f17:wr.frozen? ⟨w.heap.size+1,17,none⟩=false:=frozen_of_row wr _ 17 _ 220 HA.out
   go_upto_region 11 with fail
   rename_i K0 hK0
   have HY2:Hid (y=sumF h 16):=HY
   have h1:=heap_setCell_same (wr.setCell ⟨w.heap.size+1,16,none⟩ (.int .i64 (y / 16))) (w.heap.size+1) 17 _ 220 (.int .i64 (y % 16)) (heap_setCell_same wr (w.heap.size+1) 16 _ 220 (.int .i64 (y / 16)) HA.out)
   rw [vA_set,vA_set,HY2.out,diL_of,← HY2.out] at h1
   have h0:((wr.setCell ⟨w.heap.size+1,16,none⟩ (.int .i64 (y / 16))).setCell ⟨w.heap.size+1,17,none⟩ (.int .i64 (y % 16))).heap[w.heap.size]? = some (.cells (vA (dgL h 16)) 220):=(Below.heap_setCell _ _ _ _ (by simp)).trans ((Below.heap_setCell _ _ _ _ (by simp)).trans HZ.out)
   have hB:Below w.heap.size w ((wr.setCell ⟨w.heap.size+1,16,none⟩ (.int .i64 (y / 16))).setCell ⟨w.heap.size+1,17,none⟩ (.int .i64 (y % 16))):=(HB.out.setCell (by simp) _).setCell (by simp) _
   obtain ⟨W,hW⟩:∃ W,W=((wr.setCell ⟨w.heap.size+1,16,none⟩ (.int .i64 (y / 16))).setCell ⟨w.heap.size+1,17,none⟩ (.int .i64 (y % 16))):=⟨_,rfl⟩
   rw [← hW] at h1 h0 hB ⊢
   clear hW HA HZ HB HY2 k16 f16 k17 f17
   apply wp_region_lit
   refine wpList_load_row rfl 220 _ rfl (w.heap.size+1) rfl 220 (vA (diL h)) (0,0) _ h1 Tryz.underlying220 rfl (by rw [vA_size,diL_len]; exact Tryz.info18) ?_
   refine wpList_store_row rfl 220 _ _ rfl w.heap.size (vA (diL h)) rfl rfl 220 (vA (dgL h 16)) h0 (by rw [vA_size,diL_len]; exact Tryz.info18) (by rw [vA_size,vA_size,diL_len,dgL_len]) (vA_one _) ?_
   apply wpList_nil
   refine hK0 _ _ ?_
   have hf:=setRow_heap W w.heap.size _ (vA (diL h)) 220 _ h0
   go_wp2
   try simp only [Exit.inBlock,Exit.then]
   exact bodyPost_ret (results_cell_row rfl _ _ w.heap.size 220 (vA (diL h)) (0,0) _ rfl hf Tryz.underlying220 rfl (by rw [vA_size,diL_len]; exact Tryz.info18)) rfl ⟨rfl,below_setRow hB (Nat.le_refl _) _⟩
  ·have e1:((q+1:Nat):Int) - 1=(q:Int):=by omega
   rw [e1]
   clear e1
   have hq16:q<16:=by omega
   have hx0:0≤x:=by rw [HX.out]; exact Int.ediv_nonneg hU.1 (Int.le_of_lt (Int.pow_pos (by decide)))
   have hx1:x≤18446744073709551615:=by
    have:x≤h:=by rw [HX.out]; exact Int.ediv_le_self _ hU.1
    have:=hU.2
    omega
   have ha:=and15 x hx0 hx1
   have HD:Hid (x % 16=digI h q):=by show _=_; rw [HX.out]; unfold digI; rw [show 16 - (q+1)=15 - q by omega]
   have hdb:=digI_bd h q
   have kq:wr.cell? ⟨w.heap.size+1,q,none⟩=some (.int .i64 ((dgL h (q+1)).getD q 0)):=by
    rw [cell_of_row _ _ q _ 220 (0,0) HA.out,vA_get,List.getElem?_eq_getElem (by rw [dgL_len]; omega)]
    simp [dgL_len,show q<18 by omega]
   have fq:wr.frozen? ⟨w.heap.size+1,q,none⟩=false:=frozen_of_row wr _ q _ 220 HA.out
   go_wp2_with fail
   go_roundw
   case rel =>
    have hs:=heap_setCell_same wr (w.heap.size+1) q _ 220 (.int .i64 (x % 16)) HA.out
    rw [vA_set,HD.out,dgL_set h q hq16,← HD.out] at hs
    have hyb:=sumF_bd h (16 - (q+1))
    have hw2:wrap64 (y+(15 - x % 16))=y+(15 - x % 16):=by rw [← show y=sumF h (16 - (q+1)) from HY.out] at hyb; unfold wrap64; omega
    refine ⟨q,x / 16,wrap64 (y+(15 - x % 16)),by omega,rfl,rfl,rfl,?_,?_,hs,(Below.heap_setCell _ _ _ _ (by simp)).trans HZ.out,HB.out.setCell (by simp) _⟩
    ·show _=_
     rw [HX.out,Int.ediv_ediv_of_nonneg (Int.le_of_lt (Int.pow_pos (by decide))),show 16 - q=16 - (q+1)+1 by omega,Int.pow_succ]
    ·show _=_
     rw [hw2,HY.out,HD.out,show 16 - q=16 - (q+1)+1 by omega,sumF,show 15 - (16 - (q+1))=q by omega]
   case measure=>simp [intOf]
open Go.RowKit
theorem cell_one64 (w:World)(x:Int):∀ jj uu,([x].map (Value.int .i64))[jj]? = some uu→(w.alloc (.cells #[.int .i64 x] 2)).cell? ((⟨w.heap.size,0,none⟩:Addr).add jj)=some uu:=by
 intro jj uu hju
 rw [Addr.add_lit,Nat.zero_add,cell_of_row _ w.heap.size jj _ 2 _ (heap_alloc_new w _),← hju]
 simp
theorem cell_two64 (w:World)(x y:Int):∀ jj uu,([x,y].map (Value.int .i64))[jj]? = some uu→(w.alloc (.cells #[.int .i64 x,.int .i64 y] 2)).cell? ((⟨w.heap.size,0,none⟩:Addr).add jj)=some uu:=by
 intro jj uu hju
 rw [Addr.add_lit,Nat.zero_add,cell_of_row _ w.heap.size jj _ 2 _ (heap_alloc_new w _),← hju]
 simp
theorem slice_of_owns {B:Nat}{w:World}{v:Value}{n:Nat}{xs:List Value}{t:TypeId}(h:w.ownsRow B t 1 v n xs):∃ a cap,v=.slice a n cap:=by
 rcases h.2 with ⟨rfl,rfl⟩ | ⟨g,cap,cur,rfl,_⟩
 ·exact ⟨_,_,rfl⟩
 ·exact ⟨_,_,rfl⟩
theorem row64_of_owns {B:Nat}{w:World}{a:Option Addr}{n cap:Nat}{zs:List Int}(h:w.ownsRow B 2 1 (.slice a n cap) n (zs.map (Value.int .i64))):Row64 w a n zs:=by
 have hl:zs.length=n:=by simpa using h.1
 refine ⟨hl,fun k hk=>?_⟩
 rcases h.2 with ⟨_,h0⟩ | ⟨g,cap',cur,hv,hb,hg,r⟩
 ·omega
 ·simp only [Value.slice.injEq] at hv
  obtain ⟨rfl,_,rfl⟩:=hv
  refine ⟨g,0,rfl,(Array.getElem?_eq_some_iff.1 hg).1,?_⟩
  rw [Nat.zero_add,World.ownsRow.cellAt h k (by omega)]
  simp [show k<zs.length by omega]
theorem pow_16 (k:Nat):(2:Int) ^ (4 * k)=(16:Int) ^ k:=by rw [Int.pow_mul]; rfl
end Go.Proofs.YtnmplldhdfingaaGreatDoor
