import Derived.Test.YtnmplldhdfingaaGreatDoorFG30
import Derived.Test.YtnmplldhdfingaaGreatDoorFG27
set_option maxRecDepth 10000
set_option maxHeartbeats 8000000
set_option linter.unusedVariables false
namespace Go.Proofs.YtnmplldhdfingaaGreatDoor
open Go.RowKit
theorem ownsRow_lower {w:World}{B B' t s n c:Nat}{a:Option Addr}{vs:List Value}(h:w.ownsRow B t s (.slice a n c) n vs)(hB:B'≤B):w.ownsRow B' t s (.slice a n c) n vs:=by
 refine ⟨h.1,?_⟩
 rcases h.2 with q | ⟨g,c',cur,h1,hb,r⟩
 ·exact .inl q
 ·exact .inr ⟨g,c',cur,h1,Nat.le_trans hB hb,r⟩
theorem Touch.toS {lo hi:Nat}{w w':World}(h:Touch lo hi w w'):TouchS (fun i=>lo≤i∧i<hi) w w':=⟨h.os,h.tape,h.output,h.size,fun i hi' ho=>h.block i hi' (by omega)⟩
theorem toPartS_own (a:Option Addr)(n cap:Nat)(xs:List PT)(w:World)(h:Pts w a n xs)(hn:n≤1048576) :
  Calls Tryz.prog 57 #[.slice a n cap] w fun e w'=>e=.returned (.slice (some ⟨w.heap.size,0,none⟩) n n)∧(∃ vs,w'.ownsRow w.heap.size 132 2 (.slice (some ⟨w.heap.size,0,none⟩) n n) n vs)∧Pts w' (some ⟨w.heap.size,0,none⟩) n xs∧Below w.heap.size w w':=by
 obtain ⟨i0,hi,hz0,hz1,hz2⟩:=info_parts Tryz.infoPart
 have HK:Hid (Pts w a n xs):=h
 have hlen:Hid (xs.length=n):=h.len
 clear h
 go_enter Tryz.func57,Tryz.ntmps57
 go_wp2_with (first | (at_make; refine wpList_make_full _ rfl _ _ 33 rfl w.heap.size 132 i0 _ 2 Tryz.underlying33 hi hz0 hz1 _ _ _ _ n rfl rfl rfl rfl (by rw [hz2]; omega) (by unfold maxLen; omega) (by exact Nat.le_refl _) ?_; intro w1 hown hgrow))
 have hbl:Below w.heap.size w w1:=(Below.refl _ _).grown hgrow (Nat.le_refl _) (by simp)
 clear hgrow hi hz0 hz1 hz2
 go_loopw [4] (fun i wr=>∃ k:Nat,k≤n∧i=.int .i64 k∧(∃ vs,wr.ownsRow w.heap.size 132 2 (.slice (some ⟨w.heap.size,0,none⟩) n n) n vs)∧PtPre wr w.heap.size k xs∧Below w.heap.size w wr) (fun i _=>n - (intOf i).toNat)
 case atStart=>exact ⟨0,Nat.zero_le _,rfl,⟨_,hown⟩,fun j hj=>absurd hj (Nat.not_lt_zero _),hbl⟩
 case round =>
  obtain ⟨k,hk,rfl,⟨vs,hor⟩,hpre,hbr⟩:=hrel
  have hgl:=(hor.lt _ rfl).2
  by_cases hkn:k<n
  ·obtain ⟨b,off,rfl,hlb,hc,hnk⟩:=HK.out.get k hkn
   obtain ⟨y,hy⟩:∃ y,y=xs.getD k default:=⟨_,rfl⟩
   rw [← hy] at hc
   have HY:Hid (y=xs.getD k default):=hy
   obtain ⟨c0,c1⟩:=hc.of (w':=wr) (fun i=>hbr.cell (p:=⟨b,i,none⟩) hlb)
   have hkni:(k:Int)<(n:Int):=by omega
   have hs:=hbr.size
   have HPRE:Hid (PtPre wr w.heap.size k xs):=hpre
   have HOR:Hid (_):=hor
   clear hc hy hpre hor
   go_wp2_with fail
   refine (toPart_any y _).mono ?_
   rintro e w2 ⟨rfl,hb2⟩
   have hor2:w2.ownsRow w.heap.size 132 2 (.slice (some ⟨w.heap.size,0,none⟩) n n) n vs:=ownsRow_below HOR.out hb2
   have hs2:=hb2.size
   have fr:∀ j,w2.frozen? ⟨w.heap.size,j,none⟩=false:=fun j=>hor2.frozenAt j
   have hvl:vs.length=n * 2:=hor2.1
   have cx:∀ j,j<n * 2→∃ z,w2.cell? ⟨w.heap.size,j,none⟩=some z:=fun j hj=>⟨_,(hor2.cellAt j hj).trans (List.getElem?_eq_getElem (by omega))⟩
   obtain ⟨z0,x0⟩:=cx (k * 2) (by omega)
   obtain ⟨z1,x1⟩:=cx (k * 2+1) (by omega)
   have f0:=fr (k * 2)
   have f1:=fr (k * 2+1)
   have hS:=set2_is hor2 k hkn y
   have hP:PtPre (set2 w2 w.heap.size k (.int .i64 y.attr) (.string y.val)) w.heap.size (k+1) xs:=by
    intro j hj
    by_cases hjk:j=k
    ·subst hjk
     rw [← HY.out]
     exact hS.cells
    ·have hc':=(HPRE.out.kept hgl hb2) j (by omega)
     have hx:=hS.old
     exact ⟨(hx _ (by omega) (by omega)).trans hc'.c0,(hx _ (by omega) (by omega)).trans hc'.c1⟩
   have hB4:=(hbr.trans (hb2.mono hs)).trans (hS.touch.below (Nat.le_refl _) (by omega))
   have FIN:Hid (_∧_∧_):=⟨hS.own,hP,hB4⟩
   clear fr cx hS hP hB4
   unfold ptv
   go_wp2
   go_roundw
   case rel=>exact ⟨k+1,by omega,by go_num,FIN.out.1,FIN.out.2.1,FIN.out.2.2⟩
   case measure=>simp [intOf]; omega
  ·obtain rfl:n=k:=by omega
   have HPRE:Hid (PtPre wr w.heap.size n xs):=hpre
   have HOE:Hid (_):=hor
   clear hpre hor
   go_wp2
   go_ret
   refine ⟨rfl,⟨_,HOE.out⟩,⟨hlen.out,by omega,fun k hk=>?_⟩,hbr⟩
   obtain ⟨_,_,_,_,_,hn⟩:=HK.out.get k hk
   exact ⟨w.heap.size,0,rfl,hgl,by rw [Nat.zero_add]; exact HPRE.out k hk,hn⟩
theorem toName_own (a:Option Addr)(n c:Nat)(xs:List PT)(w:World)(h:Pts w a n xs)(hn:n≤1048576) :
  Calls Tryz.prog 20 #[nmv a n c] w fun e w'=>∃ g',e=.returned (nmv (some ⟨g',0,none⟩) n n)∧w.heap.size≤g'∧(∃ vs,w'.ownsRow w.heap.size 132 2 (.slice (some ⟨g',0,none⟩) n n) n vs)∧Pts w' (some ⟨g',0,none⟩) n xs∧Below w.heap.size w w':=by
 have HK:Hid (Pts w a n xs):=h
 clear h
 unfold nmv
 obtain ⟨W0,hW0⟩:∃ W0,W0=(((w.alloc (.cells #[.slice a n c] 24)).alloc (.cells #[.slice none 0 0] 35)).alloc (.cells #[.slice none 0 0] 35)):=⟨_,rfl⟩
 have hB0:Below w.heap.size w W0:=by rw [hW0]; exact three_below _ _ _ _
 have hS0:W0.heap.size=w.heap.size+3:=by rw [hW0]; simp
 obtain ⟨_,b1,b2⟩:=three_blocks' w (.cells #[.slice a n c] 24) (.cells #[.slice none 0 0] 35) (.cells #[.slice none 0 0] 35)
 rw [← hW0] at b1 b2
 go_enter Tryz.func20,Tryz.ntmps20
 go_wp2_with fail
 rw [← hW0]
 clear hW0
 refine (toPartS_own a n c xs _ (HK.out.kept hB0) hn).mono ?_
 rintro e w1 ⟨rfl,hv1,ho1,hb1⟩
 obtain ⟨g1,hg1⟩:∃ g1,g1=W0.heap.size:=⟨_,rfl⟩
 rw [← hg1] at ho1 hv1 ⊢
 obtain ⟨vs1,hv1⟩:=hv1
 have HV1:Hid (w1.ownsRow g1 132 2 (.slice (some ⟨g1,0,none⟩) n n) n vs1):=hv1
 clear hv1
 have HG1:Hid (g1=w.heap.size+3):=by show _=_; omega
 have hs1:=hb1.size
 replace b1:=heap_kept' hb1 (by omega) b1
 replace b2:=heap_kept' hb1 (by omega) b2
 have hB1:Below w.heap.size w w1:=hB0.trans (hb1.mono (by omega))
 have r0:w1.cell? ⟨w.heap.size+1+1,0,none⟩=some (.slice none 0 0):=qk b2 rfl
 have s0:w1.cell? ⟨w.heap.size+1,0,none⟩=some (.slice none 0 0):=qk b1 rfl
 have fr0:w1.frozen? ⟨w.heap.size+1+1,0,none⟩=false:=frozen_of_row w1 (w.heap.size+1+1) 0 _ 35 b2
 have f0:w1.frozen? ⟨w.heap.size+1,0,none⟩=false:=frozen_of_row w1 (w.heap.size+1) 0 _ 35 b1
 have E1:Hid (_=_):=b1
 have OB:Hid (_):=ho1
 have HB:Hid (_):=hB1
 have hgl:g1≤w1.heap.size:=by omega
 clear b1 b2 ho1 hb1 hB0 hB1 hg1 hs1 hS0
 go_wp2
 have hgg:=HG1.out
 have q0:=heap_setCell_other w1 ⟨w.heap.size+1+1,0,none⟩ (w.heap.size+1) (.slice (some ⟨g1,0,none⟩) n n) (by simp)
 have q1:=heap_setCell_same _ (w.heap.size+1) 0 _ 35 (.slice (some ⟨g1,0,none⟩) n n) (q0.trans E1.out)
 have tt:Touch (w.heap.size+1) (w.heap.size+3) w1 ((w1.setCell ⟨w.heap.size+1+1,0,none⟩ (.slice (some ⟨g1,0,none⟩) n n)).setCell ⟨w.heap.size+1,0,none⟩ (.slice (some ⟨g1,0,none⟩) n n)):=(touch_set' _ _ _ _ (by omega) (by omega)).trans (touch_set' _ _ _ _ (by omega) (by omega))
 try simp only [Exit.inBlock,Exit.then]
 refine bodyPost_ret (results_nm rfl _ (w.heap.size+1) rfl _ _ q1) rfl ⟨_,rfl,by omega,⟨vs1,ownsRow_lower (ownsRow_keepS HV1.out (tt.toS) (fun g e hg q=>by omega)) (by omega)⟩,OB.out.same ?_ (by simp),HB.out.trans (tt.below (by omega) (by omega))⟩
 exact (heap_setCell_other _ _ _ _ (by simp; omega)).trans (heap_setCell_other _ _ _ _ (by simp; omega))
open Go.RowKit
theorem not_mask (a b:BitVec 64)(h:a &&& ~~~b=0#64):a &&& b=a:=by
 apply BitVec.eq_of_getLsbD_eq
 intro i hi
 have h2:=congrArg (fun v=>v.getLsbD i) h
 simp only [BitVec.getLsbD_and,BitVec.getLsbD_not,hi,decide_true,Bool.true_and,BitVec.getLsbD_zero] at h2
 simp only [BitVec.getLsbD_and]
 cases ha:a.getLsbD i <;> cases hb:b.getLsbD i <;> simp [ha,hb] at h2 ⊢
theorem mask_table:((List.range 127).all fun v=>(bits BinOp.andNot IntKind.i64 (v:Int) 126 == 0) == decide ((v:Int) % 2=0))=true:=by decide +kernel
theorem scope_bits (s:Int)(h0 : -9223372036854775808≤s)(h1:s≤9223372036854775807):(s != 0 && bits BinOp.andNot IntKind.i64 s 126 == 0)=decide (2≤s∧s≤126∧s % 2=0):=by
 by_cases hs:0≤s∧s≤126
 ·obtain ⟨k,rfl⟩:∃ k:Nat,s=k:=⟨s.toNat,by omega⟩
  have ht:=List.all_eq_true.1 mask_table k (List.mem_range.2 (by omega))
  rw [beq_iff_eq.1 ht]
  by_cases hk:k=0
  ·subst hk; rfl
  ·by_cases he:(k:Int) % 2=0
   ·rw [decide_eq_true he,decide_eq_true (by omega)]
    simp; omega
   ·rw [decide_eq_false he,decide_eq_false (fun q=>he q.2.2)]
    simp
 ·rw [decide_eq_false (fun q=>hs ⟨by omega,q.2.1⟩)]
  have hne:¬ bits BinOp.andNot IntKind.i64 s 126=0:=fun e=>by
   unfold bits at e
   simp only [IntKind.bits] at e
   have hr:∀ r:BitVec 64,IntKind.i64.wrap (r.toNat:Int)=0→r=0#64:=fun r hr=>by
    rw [IntKind.wrap_i64] at hr
    have:=r.isLt
    apply BitVec.eq_of_toNat_eq
    simp
    omega
   have h2:=not_mask _ _ (hr _ e)
   have h3:=congrArg BitVec.toNat h2
   rw [BitVec.toNat_and] at h3
   have h4:(BitVec.ofInt 64 126).toNat=126:=by decide
   rw [h4] at h3
   have h5:=Nat.and_le_right (n:=(BitVec.ofInt 64 s).toNat) (m:=126)
   rw [h3] at h5
   rw [BitVec.toNat_ofInt] at h5
   omega
  simp [hne]
theorem scopeOk_any (s:Int)(w:World)(h0 : -9223372036854775808≤s)(h1:s≤9223372036854775807):Calls Tryz.prog 62 #[.int .i64 s] w fun e w'=>e=.returned (.bool (decide (2≤s∧s≤126∧s % 2=0)))∧w=w':=by
 have HS:Hid ((s != 0 && bits BinOp.andNot IntKind.i64 s 126 == 0)=decide (2≤s∧s≤126∧s % 2=0)):=scope_bits s h0 h1
 by_cases hz:s=0
 ·subst hz
  go_enter Tryz.func62,Tryz.ntmps62
  go_wp2
  go_ret
  exact ⟨rfl,rfl⟩
 ·have hn:(s != 0)=true:=by simp [hz]
  go_enter Tryz.func62,Tryz.ntmps62
  go_wp2
  go_ret
  exact ⟨by rw [← HS.out,hn]; rfl,rfl⟩
open Go.RowKit Go.Maps
theorem opw_mapUpdate {H:Type}{P:Program}{Q:Exit→Act→World→Prop}{o:Oper}{a:Act}{w:World}{K:Act→World→Prop}(m x v:Nat)(t:TypeId)(hop:o.op=.mapUpdate t (.tmp m) (.tmp x) (.tmp v))
  (k e:TypeId) (KL:Keyed P k) (ht:P.underlying t=some (.map k e)) (R:Value→Option (DataW H × List MemPlace)) (b n:Nat) (D:DataW H)
  (hm:aT a m=.map (some b)) (hown:w.ownsMap P k R b n D) (hn:n<maxLen) (key val:Value) (l:Lit) (hx:aT a x=key) (hv:aT a v=val) (hkey:Go.keyOf P k key=some l)
  (d:DataW H) (ps:List MemPlace) (hval:R val=some (d,ps))
  (hK:∀ w',w'.ownsMap P k R b (n+1) (D.put l d)→w.grownBy w' (some b)→K (a.put o.dst undef) w'):o.wp P a w K Q:=by
 obtain ⟨w',hrun,r1,r2⟩:=hown.update KL ht hn hkey hval
 have hm':a.eval (.tmp m)=.map (some b):=hm
 have hx':a.eval (.tmp x)=key:=hx
 have hv':a.eval (.tmp v)=val:=hv
 unfold Oper.wp
 simp [execOp,hop,hm',hx',hv',hrun,Result.andThen]
 exact hK w' r1 r2
theorem addKey_str (acc:List (List UInt8))(x:List UInt8):addKey (acc.map Lit.string) (.string x)=(if x∈acc then acc else acc++[x]).map Lit.string:=by
 unfold addKey
 have e:((acc.map Lit.string).any fun y=>y.sameKey (.string x))=decide (x∈acc):=by
  induction acc with
  | nil=>rfl
  | cons z acc ih =>
   rw [List.map_cons,List.any_cons,ih]
   by_cases h:z=x
   ·subst h; simp [Lit.sameKey]
   ·have h2:¬ x=z:=fun q=>h q.symm
    simp [Lit.sameKey,h,h2]
 rw [e]
 by_cases h:x∈acc <;> simp [h]
def addS (acc:List (List UInt8))(x:List UInt8):List (List UInt8):=if x∈acc then acc else acc++[x]
theorem fold_str:∀ (xs acc:List (List UInt8)),(xs.map Lit.string).foldl addKey (acc.map Lit.string)=(xs.foldl addS acc).map Lit.string
 | [],acc=>rfl
 | x::xs,acc=>by
  rw [List.map_cons,List.foldl_cons,addKey_str]
  exact fold_str xs (addS acc x)
theorem addS_mem (acc:List (List UInt8))(x y:List UInt8):y∈addS acc x↔y∈acc∨y=x:=by
 unfold addS
 split
 ·rename_i h
  exact ⟨.inl,fun q=>q.elim id (fun e=>by rw [e]; exact h)⟩
 ·simp
theorem fold_len:∀ (xs acc:List (List UInt8)),(xs.foldl addS acc).length≤acc.length+xs.length∧((xs.foldl addS acc).length=acc.length+xs.length↔(∀ y∈xs,y∉acc)∧xs.Nodup)
 | [],acc=>by simp
 | x::xs,acc=>by
  have ih:=fold_len xs (addS acc x)
  rw [List.foldl_cons]
  by_cases h:x∈acc
  ·have e:addS acc x=acc:=by unfold addS; rw [if_pos h]
   rw [e] at ih ⊢
   refine ⟨by simp only [List.length_cons]; omega,⟨fun q=>?_,fun q=>absurd h (q.1 x (List.Mem.head _))⟩⟩
   simp only [List.length_cons] at q
   omega
  ·have e:(addS acc x).length=acc.length+1:=by unfold addS; rw [if_neg h]; simp
   refine ⟨by simp only [List.length_cons]; omega,?_⟩
   have e2:((xs.foldl addS (addS acc x)).length=acc.length+(x::xs).length)↔(xs.foldl addS (addS acc x)).length=(addS acc x).length+xs.length:=by simp only [List.length_cons]; omega
   rw [e2,ih.2,List.nodup_cons]
   constructor
   ·rintro ⟨q1,q2⟩
    refine ⟨fun y hy=>?_,fun hx=>q1 x hx ((addS_mem _ _ _).2 (.inr rfl)),q2⟩
    rcases List.mem_cons.1 hy with rfl | hy
    ·exact h
    ·exact fun ha=>q1 y hy ((addS_mem _ _ _).2 (.inl ha))
   ·rintro ⟨q1,q2,q3⟩
    refine ⟨fun y hy ha=>?_,q3⟩
    rcases (addS_mem _ _ _).1 ha with ha | rfl
    ·exact q1 y (List.Mem.tail _ hy) ha
    ·exact q2 hy
open Go.RowKit Go.Maps
def RG:Value→Option (DataW Unit × List MemPlace):=fun _=>some (.lit (.bool true),[])
def kb (y:GP):List UInt8:=keyBytes [.string (ftS y.parts).data.toList,.int .i64 y.ser]
def Sn (xs:List GP)(k:Nat):DataW Unit:=setOf (.lit (.bool true)) ((xs.take k).map fun y=>Lit.string (kb y))
theorem Sn_zero (xs:List GP):Sn xs 0=.map []:=by simp [Sn,setOf]
theorem Sn_succ (xs:List GP)(k:Nat)(hk:k<xs.length):Sn xs (k+1)=(Sn xs k).put (.string (kb (xs.getD k default))) (.lit (.bool true)):=by
 unfold Sn
 rw [List.take_succ_eq_append_getElem hk,List.map_append,List.getD_eq_getElem?_getD,List.getElem?_eq_getElem hk]
 exact setOf_snoc _ _ _
def MpO (b n:Nat)(D:DataW Unit)(w:World):Prop:=w.ownsMap Tryz.prog 164 RG b n D
theorem MpO.kept {b n:Nat}{D:DataW Unit}{w w':World}(h:MpO b n D w)(hb:Below w.heap.size w w'):MpO b n D w':=by
 have hl:=World.ownsMap.lt h
 obtain ⟨es,clock,he,F,hs,hd⟩:=h
 exact ⟨es,clock,(hb.block b hl).trans he,F,hs,hd⟩
def bk5 (an:Option Addr)(nn cn:Nat)(y:GP)(m:Nat)(D:DataW Unit)(G go B:Nat):RSpec where
 m:=5
 n:=7
 slots:=[13,14,15,16,100004,100005,100006]
 kills:=[[],[],[],[],[],[],[4]]
 pres:=[[],[],[],[],[],[],[]]
 fact:=fun k v w=>match k with
  | 0=>v=.map (some G)
  | 1=>v=.agg #[.slice an nn cn,.int .i64 y.ser,.int .i64 y.tm,.int .i64 y.rs]
  | 2=>v=.agg #[.string (ftS y.parts),.int .i64 y.ser]
  | 3=>v=.agg #[.slice an nn cn,.int .i64 y.ser,.int .i64 y.tm,.int .i64 y.rs]
  | 4=>MpO G (m+1) (D.put (.string (kb y)) (.lit (.bool true))) w
  | 5=>w.heap[go]? = some (.cells #[.slice an nn cn,.int .i64 y.ser,.int .i64 y.tm,.int .i64 y.rs] 74 (0,0))
  | _=>MpO G m D w
theorem bk5_stb (an:Option Addr)(nn cn:Nat)(y:GP)(m:Nat)(D:DataW Unit)(G go B:Nat)(k:Nat)(hk:k<7):StB ((bk5 an nn cn y m D G go (B)).fact k):=by
 match k,hk with
 | 0,_=>exact fun _ _ _ h _=>h
 | 1,_=>exact fun _ _ _ h _=>h
 | 2,_=>exact fun _ _ _ h _=>h
 | 3,_=>exact fun _ _ _ h _=>h
 | 4,_=>exact fun _ _ _ q_0 hb=>q_0.kept hb
 | 5,_=>exact fun _ _ _ q_0 hb=>below_kept q_0 hb
 | 6,_=>exact fun _ _ _ q_0 hb=>q_0.kept hb
 | k+7,hk=>omega
set_option maxRecDepth 100000 in
theorem byKey_any (a : Option Addr) (n c : Nat) (xs : List GP) (w : World) (htab : Lib.TabIs Tryz.prog w "internal/strconv.uint64pow10" .u64 Lib.pow10Tab) (h : Gns w a n xs) (hn : n ≤ 1000) (hp : ∀ k, k < n → nameP (xs.getD k default).parts ∧ (Lit.int .i64 (xs.getD k default).ser).wf = true) :
  Calls Tryz.prog 104 #[.slice a n c] w fun e w'=>e=.returned (.map (some w.heap.size))∧MpO w.heap.size n (Sn xs n) w'∧Below w.heap.size w w':=by
 have hmm:=@run_makeMap Tryz.prog
 have HK:Hid (Gns w a n xs):=h
 have HP:Hid (∀ k,k<n→nameP (xs.getD k default).parts∧(Lit.int .i64 (xs.getD k default).ser).wf=true):=hp
 have HT : Hid (∀ W, Below w.heap.size w W → Lib.TabIs Tryz.prog W "internal/strconv.uint64pow10" .u64 Lib.pow10Tab) := fun W hW => Lib.tabBelow_of_tabIs htab W hW
 have HL:Hid (xs.length=n):=h.len
 clear h hp htab
 go_enter Tryz.func104,Tryz.ntmps104
 go_wp2
 go_loopw [9] (fun i wr=>∃ k:Nat,k≤n∧i=.int .i64 k∧Hid (MpO w.heap.size k (Sn xs k) wr)∧Below w.heap.size w wr) (fun i _=>n - (intOf i).toNat)
 case atStart=>exact ⟨0,Nat.zero_le _,rfl,by rw [Sn_zero]; exact World.ownsMap_made _ _ _ _,(Below.refl _ _).alloc (Nat.le_refl _) _⟩
 case round =>
  obtain ⟨wo,hwo⟩:∃ wo,wo=wr:=⟨_,rfl⟩
  subst hwo
  obtain ⟨k,hk,rfl,HM,hbr⟩:=hrel
  by_cases hkn:k<n
  ·obtain ⟨b1,off1,an,nn,cn,rfl,hl1,hc1,hp1⟩:=HK.out.get k hkn
   have hpk:=HP.out k hkn
   obtain ⟨y,hy⟩:∃ y,y=xs.getD k default:=⟨_,rfl⟩
   rw [← hy] at hc1 hp1 hpk
   have HSS:Hid (Sn xs (k+1)=(Sn xs k).put (.string (kb y)) (.lit (.bool true))):=by show _=_; rw [hy]; exact Sn_succ xs k (by rw [HL.out]; exact hkn)
   obtain ⟨d0,d1,d2,d3⟩:=hc1.of (w':=wo) (fun i=>hbr.cell (p:=⟨b1,i,none⟩) hl1)
   obtain ⟨W1,hW1⟩:∃ W1,W1=wo.alloc (.cells #[.slice an nn cn,.int .i64 y.ser,.int .i64 y.tm,.int .i64 y.rs] 74):=⟨_,rfl⟩
   have hbW:Below wo.heap.size wo W1:=by rw [hW1]; exact (Below.refl _ _).alloc (Nat.le_refl _) _
   have HE1:Hid (W1.heap[wo.heap.size]? = some (.cells #[.slice an nn cn,.int .i64 y.ser,.int .i64 y.tm,.int .i64 y.rs] 74 (0,0))):=by show _=_; rw [hW1]; exact heap_alloc_new wo _
   have hB1:Below w.heap.size w W1:=hbr.trans (hbW.mono hbr.size)
   have hml:=World.ownsMap.lt HM.out
   have HM1:Hid (MpO w.heap.size k (Sn xs k) W1):=HM.out.kept hbW
   have HKO:Hid (∀ W,Below w.heap.size W1 W→Calls Tryz.prog 126 #[.agg #[.slice an nn cn,.int .i64 y.ser,.int .i64 y.tm,.int .i64 y.rs]] W fun e w'=>e=.returned (.agg #[.string (ftS y.parts),.int .i64 y.ser])∧Below W.heap.size W w'):=fun W hW=>goneKey_any an nn cn y W (HT.out W (hB1.trans hW)) (hp1.kept (hB1.trans hW)) hpk.1
   have HKI:Hid (Go.keyOf Tryz.prog 164 (.agg #[.string (ftS y.parts),.int .i64 y.ser])=some (.string (kb y))):=key_is (by
    show (fbs y.parts).toArray.size≤maxLen
    have h1:=fbs_len y.parts (nameP_all hpk.1)
    have h2:=hpk.1.1
    rw [List.size_toArray]
    unfold maxLen
    omega) hpk.2
   have HMM:k<maxLen:=by unfold maxLen; omega
   have HBB:w.heap.size≤W1.heap.size:=hB1.size
   have hkni:(k:Int)<(n:Int):=by omega
   obtain ⟨D,hD⟩:∃ D,D=Sn xs k:=⟨_,rfl⟩
   rw [← hD] at HM1 HSS
   obtain ⟨m,hm⟩:∃ m,m=k:=⟨_,rfl⟩
   have HW1:Hid (_=_):=hW1
   clear hW1 hc1 hp1 hy hbW hpk HM hD
   go_upto_region 5 with fail
   rw [← HW1.out]
   clear HW1 d0 d1 d2 d3
   rw [← hm] at HM1 HMM
   have stb:=bk5_stb an nn cn y m D w.heap.size wo.heap.size (w.heap.size)
   refine wp_region_ri (bk5 an nn cn y m D w.heap.size wo.heap.size (w.heap.size)) [13,14,15,16] (w.heap.size) (fun a0=>a0.tmps.size=19∧aT a0 3=.map (some w.heap.size)∧aT a0 5=.pointer (some ⟨wo.heap.size,0,none⟩)) (by kernel_rfl) rfl (by kernel_rfl) rfl ⟨rfl,rfl,rfl⟩ stb ?_ ?_ ?_
   ·exact vt2 (m:=5) (HE1.out) (HM1.out)
   ·rintro a0 ⟨hz,g3,g5⟩
    refine StepsRI.cons ?_ (StepsRI.cons ?_ (StepsRI.cons ?_ (StepsRI.cons ?_ (StepsRI.cons ?_ (StepsRI.nil)))))
    all_goals intro lQ b W hI hUN hED KQ hKQ
    ·exact opw_move 3 rfl (hKQ.out _ _ (hI.pu 0 13 hz hUN HBB stb (Below.refl _ _) ((hI.fr.same 3 (by decide)).trans g3)))
    ·have hg:=(hI.vo 5)
     refine wp_load_row 74 _ rfl (wo.heap.size) ((hI.fr.same 5 (by decide)).trans g5) 74 _ (0,0) _ hg Tryz.underlying74 rfl (by kernel_rfl) ?_
     exact hKQ.out _ _ (hI.pu 1 14 hz hUN HBB stb (Below.refl _ _) rfl)
    ·have f0:=hI.ge 1 hED
     replace f0:aT b 14=_:=f0
     refine opw_c1 126 14 Tryz.func126 f0 ?_
     refine (HKO.out W hI.bel).mono ?_
     rintro e W2 ⟨rfl,hb⟩
     exact ⟨_,rfl,hKQ.out _ _ (hI.pu 2 15 hz hUN HBB stb hb rfl)⟩
    ·have hg:=(hI.vo 5)
     refine wp_load_row 74 _ rfl (wo.heap.size) ((hI.fr.same 5 (by decide)).trans g5) 74 _ (0,0) _ hg Tryz.underlying74 rfl (by kernel_rfl) ?_
     exact hKQ.out _ _ (hI.pu 3 16 hz hUN HBB stb (Below.refl _ _) rfl)
    ·have f0:aT b 13=.map (some w.heap.size):=hI.ge 0 hED
     have f1:aT b 15=.agg #[.string (ftS y.parts),.int .i64 y.ser]:=hI.ge 2 hED
     have f2:aT b 16=.agg #[.slice an nn cn,.int .i64 y.ser,.int .i64 y.tm,.int .i64 y.rs]:=hI.ge 3 hED
     have hM:MpO w.heap.size m D W:=hI.vot1 6 4 (od rfl) (od rfl) hUN rfl
     have hbx:W.heap[wo.heap.size]? = some (.cells #[.slice an nn cn,.int .i64 y.ser,.int .i64 y.tm,.int .i64 y.rs] 74 (0,0)):=hI.vo 5
     refine opw_mapUpdate 13 15 16 _ rfl 164 74 kLaw Tryz.underlying139 RG w.heap.size m D f0 hM HMM _ _ (.string (kb y)) f1 f2 HKI.out (.lit (.bool true)) [] rfl ?_
     intro W2 hM2 hgr
     refine hKQ.out _ _ (hI.store 4 (fun j hj=>by cases hj) (hI.bel.grown hgr (Nat.le_trans HBB hI.bel.size) (fun q hq=>by cases hq; exact Nat.le_refl _)) (fun k hk hne hkill v hfact=>?_) hM2)
     match k,hk,hne,hkill,hfact with
     | 0,_,_,_,hq=>exact hq
     | 1,_,_,_,hq=>exact hq
     | 2,_,_,_,hq=>exact hq
     | 3,_,_,_,hq=>exact hq
     | 4,_,hne,_,_=>exact absurd rfl hne
     | 5,_,_,_,hq=>exact (hgr.block _ (Array.getElem?_eq_some_iff.1 hbx).1 (by intro e; simp only [Option.some.injEq] at e; omega)).trans hq
     | 6,_,_,hkill,_=>exact absurd (List.Mem.head _) hkill
     | k+7,hk,_,_,_=>exact absurd hk (by show ¬ (k+7<7); omega)
   ·intro b W hf hb F
    clear stb
    have hk:=F 4 (od rfl) rfl
    rw [hf.eq]
    simp only [puts,Act.put,List.setIfInBounds_toArray,List.set_cons_zero,List.set_cons_succ]
    clear hf F
    have HM2:Hid (MpO w.heap.size (m+1) (D.put (.string (kb y)) (.lit (.bool true))) W):=hk
    clear hk
    have HM3:Hid (MpO w.heap.size (k+1) (Sn xs (k+1)) W):=by show MpO _ _ _ _; rw [HSS.out,← hm]; exact HM2.out
    have hB2:Below w.heap.size w W:=hB1.trans hb
    clear HM2
    generalize aT b=AT
    clear b
    go_wp2
    go_roundw
    case rel=>exact ⟨k+1,by omega,by go_num,HM3.out,hB2⟩
    case measure=>simp [intOf]; omega
  ·have hkn':k=n:=by omega
   subst hkn'
   have hni:¬ ((k:Int)<(k:Int)):=by omega
   go_wp2
   go_ret
   exact ⟨rfl,HM.out,hbr⟩
end Go.Proofs.YtnmplldhdfingaaGreatDoor
