import Derived.Lib.ItoaNum
import Derived.Deep.Slices
import Derived.ChangeArms
import Derived.ChangeSlices
import Derived.ProofKit
import Derived.Test.YtnmplldhdfingaaGreatDoorFG23
set_option maxRecDepth 10000
set_option maxHeartbeats 8000000
set_option linter.unusedVariables false
namespace Go.Proofs.YtnmplldhdfingaaGreatDoor
open Go.RowKit
def sameP (xs ys:List PT):Prop:=xs.length=ys.length∧underP xs ys
theorem specSameName_any (a:Option Addr)(n c:Nat)(xs:List PT)(a2:Option Addr)(n2 c2:Nat)(ys:List PT)(w:World)(h:Pts w a n xs)(h2:Pts w a2 n2 ys)(hz:∀ k,k<n→(xs.getD k default).val.size≤1048576)(hz2:∀ k,k<n2→(ys.getD k default).val.size≤1048576) :
  Calls Tryz.prog 82 #[nmv a n c,nmv a2 n2 c2] w (Says (sameP xs ys) w):=by
 have hn:=h.max
 have hn2:=h2.max
 obtain ⟨W0,hW0⟩:∃ W0,W0=((w.alloc (.cells #[.slice a n c] 35)).alloc (.cells #[.slice a2 n2 c2] 35)):=⟨_,rfl⟩
 have hB0:Below w.heap.size w W0:=by rw [hW0]; exact two_below _ _ _
 have b0:=two_blocks w (.cells #[.slice a n c] 35) (.cells #[.slice a2 n2 c2] 35)
 rw [← hW0] at b0
 have HN1:Hid (BoxN 35 w.heap.size W0 a n c):=⟨b0.1⟩
 have HN2:Hid (BoxN 35 (w.heap.size+1) W0 a2 n2 c2):=⟨b0.2⟩
 have HK:Hid (Pts W0 a n xs):=h.kept hB0
 have HK2:Hid (Pts W0 a2 n2 ys):=h2.kept hB0
 have HZ:Hid (_):=hz
 have HZ2:Hid (_):=hz2
 have HL:Hid (xs.length=n):=h.len
 have HL2:Hid (ys.length=n2):=h2.len
 have q0:=HN1.out.cell
 have q1:=HN2.out.cell
 clear b0 h h2 hz hz2
 unfold nmv
 by_cases hnn:n=n2
 ·have e1:((n:Int) == (n2:Int))=true:=beq_iff_eq.2 (by omega)
  have HNN:Hid (n=n2):=hnn
  clear hnn
  go_enter Tryz.func82,Tryz.ntmps82
  go_upto_region 1 with fail
  rw [← hW0]
  clear hW0
  go_wp2_with fail
  refine (specUnder_any a n c xs a2 n2 c2 ys _ HK.out HK2.out HZ.out HZ2.out).mono ?_
  rintro e w1 ⟨b1,rfl,HV1,hb1⟩
  have B1:=hB0.trans (hb1.mono hB0.size)
  cases b1 with
  | false =>
   have HN:Hid (¬ sameP xs ys):=fun h=>Bool.false_ne_true (HV1.out.2 h.2)
   clear HV1
   go_wp2
   go_ret
   exact says_f HN.out B1
  | true =>
   have HN:Hid (sameP xs ys):=⟨by rw [HL.out,HL2.out]; exact HNN.out,HV1.out.1 rfl⟩
   clear HV1
   go_wp2
   go_ret
   exact says_t HN.out B1
 ·have HN:Hid (¬ sameP xs ys):=fun h=>hnn (by rw [← HL.out,← HL2.out]; exact h.1)
  have e1:((n:Int) == (n2:Int))=false:=beq_false_of_ne (by omega)
  clear hnn
  go_enter Tryz.func82,Tryz.ntmps82
  go_upto_region 1 with fail
  rw [← hW0]
  clear hW0
  go_wp2
  go_ret
  exact says_f HN.out hB0
open Go.RowKit
def calledP (xs:List PT):Prop:=nameP xs∧xs≠[]
def timeP (t:Int):Prop:=0≤t∧t≤253402300799
def likeP (x y:GP):Prop:=x.ser=y.ser∧sameP x.parts y.parts
theorem l10Time_any (t:Int)(w:World):Calls Tryz.prog 42 #[.int .i64 t] w fun e w'=>e=.returned (.bool (decide (0≤t∧t≤253402300799)))∧w=w':=by
 go_enter Tryz.func42,Tryz.ntmps42
 go_wp2_with fail
 refine (l1In_any t 0 253402300799 _).mono ?_
 rintro e w1 ⟨rfl,rfl⟩
 obtain ⟨v,hv⟩:∃ v,decide (0≤t∧t≤253402300799)=v:=⟨_,rfl⟩
 rw [hv]
 have HV:Hid (decide (0≤t∧t≤253402300799)=v):=hv
 clear hv
 go_wp2
 go_ret
 exact ⟨by rw [HV.out]; rfl,rfl⟩
theorem l10Called_any (a:Option Addr)(n c:Nat)(xs:List PT)(w:World)(h:Pts w a n xs)(hz:∀ k,k<n→(xs.getD k default).val.size≤1048576) :
  Calls Tryz.prog 40 #[nmv a n c] w (Says (calledP xs) w):=by
 have HL:Hid (xs.length=n):=h.len
 have hn:=h.max
 obtain ⟨w0,hw0⟩:∃ w0,w0=w.alloc (.cells #[.slice a n c] 35):=⟨_,rfl⟩
 have hb0:Below w.heap.size w w0:=by rw [hw0]; exact (Below.refl _ _).alloc (Nat.le_refl _) _
 have hh0:w0.heap[w.heap.size]? = some (.cells #[.slice a n c] 35):=by rw [hw0]; exact heap_alloc_new w _
 have hl0:w.heap.size<w0.heap.size:=(Array.getElem?_eq_some_iff.1 hh0).1
 have HK:Hid (Pts w0 a n xs):=h.kept hb0
 have HZ:Hid (_):=hz
 clear h hz
 unfold nmv
 go_enter Tryz.func40,Tryz.ntmps40
 go_wp2_with fail
 rw [← hw0]
 clear hw0
 refine (specNameOk_any a n c xs _ HK.out HZ.out).mono ?_
 rintro e w1 ⟨b,rfl,hb,hb1⟩
 have hc:w1.cell? ⟨w.heap.size,0,none⟩=some (.slice a n c):=(cell_of_row _ _ 0 _ 35 (0,0) ((hb1.block _ hl0).trans hh0)).trans rfl
 have HB:Hid (Below w.heap.size w w1):=hb0.trans (hb1.mono hb0.size)
 clear hb0 hb1 hh0
 rcases b with _ | _
 ·have HN:Hid (¬ calledP xs):=fun q=>by have:=hb.out.2 q.1; simp at this
  clear hb
  go_wp2
  go_ret
  exact says_f HN.out HB.out
 ·have HN:Hid (nameP xs):=hb.out.1 rfl
  clear hb
  by_cases h0:n=0
  ·subst h0
   have HE:Hid (¬ calledP xs):=fun q=>q.2 (List.eq_nil_of_length_eq_zero HL.out)
   go_wp2
   go_ret
   exact says_f HE.out HB.out
  ·have hp:(0:Int)<(n:Int):=by omega
   have HE:Hid (calledP xs):=⟨HN.out,fun e=>h0 (by rw [← HL.out,e]; rfl)⟩
   go_wp2
   go_ret
   exact ⟨decide (0<n),rfl,⟨fun _=>HE.out,fun _=>decide_eq_true (by omega)⟩,HB.out⟩
theorem l10Like_any (a:Option Addr)(n c:Nat)(x:GP)(b:Option Addr)(m d:Nat)(y:GP)(w:World)(h:Pts w a n x.parts)(h2:Pts w b m y.parts)(hz:∀ k,k<n→(x.parts.getD k default).val.size≤1048576)(hz2:∀ k,k<m→(y.parts.getD k default).val.size≤1048576) :
  Calls Tryz.prog 43 #[gov a n c x,gov b m d y] w (Says (likeP x y) w):=by
 obtain ⟨W0,hW0⟩:∃ W0,W0=((w.alloc (.cells #[.slice a n c,.int .i64 x.ser,.int .i64 x.tm,.int .i64 x.rs] 74)).alloc (.cells #[.slice b m d,.int .i64 y.ser,.int .i64 y.tm,.int .i64 y.rs] 74)):=⟨_,rfl⟩
 have hbl:Below w.heap.size w W0:=by rw [hW0]; exact ((Below.refl _ _).alloc (Nat.le_refl _) _).alloc (by simp) _
 have H1:Hid (Pts W0 a n x.parts):=h.kept hbl
 have H2:Hid (Pts W0 b m y.parts):=h2.kept hbl
 have HZ:Hid (_):=hz
 have HZ2:Hid (_):=hz2
 have HB:Hid (Below w.heap.size w W0):=hbl
 clear h h2 hz hz2 hbl
 unfold gov
 by_cases he:x.ser=y.ser
 ·have hd:(x.ser == y.ser)=true:=by simp [he]
  have HE:Hid (x.ser=y.ser):=he
  clear he
  go_enter Tryz.func43,Tryz.ntmps43
  go_wp2_with fail
  rw [← hW0]
  refine (specSameName_any a n c x.parts b m d y.parts _ H1.out H2.out HZ.out HZ2.out).mono ?_
  rintro e w1 ⟨v,rfl,hv,hb1⟩
  have HF:Hid (Below w.heap.size w w1):=HB.out.trans (hb1.mono HB.out.size)
  have HV:Hid (_):=hv
  clear hW0 hb1 hv
  go_wp2
  go_ret
  exact ⟨v,rfl,⟨fun q=>⟨HE.out,HV.out.1 q⟩,fun q=>HV.out.2 q.2⟩,HF.out⟩
 ·have hd:(x.ser == y.ser)=false:=by simp [he]
  have HE:Hid (¬ x.ser=y.ser):=he
  clear he
  go_enter Tryz.func43,Tryz.ntmps43
  go_wp2_with fail
  rw [← hW0]
  clear hW0
  go_ret
  exact says_f (fun q=>HE.out q.1) HB.out
open Go.RowKit
section
variable {P:Program} {Q:Exit→Act→World→Prop}
def StepsRK (P:Program)(Q:Exit→Act→World→Prop)(ops:Array Oper)(S:RSpec)(D:List Nat)(B:Nat)(w0:World)(a0:Act)(i:Nat)(os:List Oper):Prop :=
 ∀ k o,os[k]? = some o→∀ (l:Nat→Bool) (a:Act) (w:World),RI S D B w0 a0 l a w→l (i+k)=false→(∀ e∈o.after,Region.binds .any e=true→l e.on=true)→∀ K':Act→World→Prop,Hid (∀ a w,RI S D B w0 a0 (upd l (i+k)) a w→K' a w)→if Region.wanted o (yielded ops a.tmps)=true then o.wp P a w K' Q else K' (a.put o.dst undef) w
theorem StepsRK.nil {ops:Array Oper}{S:RSpec}{D:List Nat}{B:Nat}{w0:World}{a0:Act}{i:Nat}:StepsRK P Q ops S D B w0 a0 i []:=fun k o h=>by simp at h
theorem StepsRK.cons {ops:Array Oper}{S:RSpec}{D:List Nat}{B:Nat}{w0:World}{a0:Act}{i:Nat}{o:Oper}{os:List Oper}
  (h:∀ (l:Nat→Bool) (a:Act) (w:World),RI S D B w0 a0 l a w→l i=false→(∀ e∈o.after,Region.binds .any e=true→l e.on=true)→∀ K':Act→World→Prop,Hid (∀ a w,RI S D B w0 a0 (upd l i) a w→K' a w)→if Region.wanted o (yielded ops a.tmps)=true then o.wp P a w K' Q else K' (a.put o.dst undef) w)
  (hs:StepsRK P Q ops S D B w0 a0 (i+1) os):StepsRK P Q ops S D B w0 a0 i (o::os):=fun k o' hk=>by
 cases k with
 | zero =>
  simp only [List.getElem?_cons_zero,Option.some.injEq] at hk
  subst hk
  exact h
 | succ k =>
  simp only [List.getElem?_cons_succ] at hk
  have:=hs k o' hk
  rwa [Nat.add_right_comm] at this
theorem rk_plain {ops:Array Oper}{o:Oper}{a:Act}{w:World}{K:Act→World→Prop}(hg:o.guard=none)(h:o.wp P a w K Q):if Region.wanted o (yielded ops a.tmps)=true then o.wp P a w K Q else K (a.put o.dst undef) w:=by
 have hw:Region.wanted o (yielded ops a.tmps)=true:=by simp [Region.wanted,hg]
 rw [if_pos hw]
 exact h
def yb:Value→Option Bool
 | .bool b=>some b
 | _=>none
theorem yielded_of {ops:Array Oper}{a:Act}{j s:Nat}{v:Value}(hd:(ops[j]?).bind (·.dst)=some s)(hv:aT a s=v):yielded ops a.tmps j=yb v:=by
 unfold yielded
 rw [hd]
 subst hv
 unfold aT
 by_cases hs:s<a.tmps.size
 ·simp only [Option.bind_some,Array.getElem?_eq_getElem hs,Array.getD_eq_getD_getElem?,Option.getD_some]
  generalize a.tmps[s]=v
  cases v <;> rfl
 ·simp [Array.getElem?_eq_none (Nat.le_of_not_lt hs),undef,yb]
theorem rk_take {ops:Array Oper}{o:Oper}{a:Act}{w:World}{K:Act→World→Prop}(j:Nat)(want:Bool)(s:Nat)(hg:o.guard=some (j,want))(hd:(ops[j]?).bind (·.dst)=some s)(hv:aT a s=.bool want)(h:o.wp P a w K Q):if Region.wanted o (yielded ops a.tmps)=true then o.wp P a w K Q else K (a.put o.dst undef) w:=by
 have hw:Region.wanted o (yielded ops a.tmps)=true:=by simp [Region.wanted,hg,yielded_of hd hv,yb]
 rw [if_pos hw]
 exact h
theorem rk_skip {ops:Array Oper}{o:Oper}{a:Act}{w:World}{K:Act→World→Prop}(j:Nat)(want:Bool)(s:Nat)(v:Value)(hg:o.guard=some (j,want))(hd:(ops[j]?).bind (·.dst)=some s)(hv:aT a s=v)(hne:(yb v == some want)=false)(h:K (a.put o.dst undef) w):if Region.wanted o (yielded ops a.tmps)=true then o.wp P a w K Q else K (a.put o.dst undef) w:=by
 have hw:Region.wanted o (yielded ops a.tmps)=false:=by
  simp only [Region.wanted,hg,yielded_of hd hv]
  exact hne
 rw [if_neg (by rw [hw]; decide)]
 exact h
theorem opw_pick_t {o:Oper}{a:Act}{w:World}{K:Act→World→Prop}(c:Nat)(x y:Operand)(ho:o.op=.pick (.tmp c) x y)(hc:aT a c=.bool true)(v:Value)(hx:a.eval x=v)(h:K (a.put o.dst v) w):o.wp P a w K Q:=by
 refine opw_value v ?_ h
 have hc':a.eval (.tmp c)=.bool true:=hc
 unfold execOp
 simp [ho,hc',hx,asBool]
theorem opw_pick_f {o:Oper}{a:Act}{w:World}{K:Act→World→Prop}(c:Nat)(x y:Operand)(ho:o.op=.pick (.tmp c) x y)(hc:aT a c=.bool false)(v:Value)(hy:a.eval y=v)(h:K (a.put o.dst v) w):o.wp P a w K Q:=by
 refine opw_value v ?_ h
 have hc':a.eval (.tmp c)=.bool false:=hc
 unfold execOp
 simp [ho,hc',hy,asBool]
theorem opw_eql {o:Oper}{a:Act}{w:World}{K:Act→World→Prop}(t t2 x y:Nat)(ho:o.op=.binOp .eql t (.tmp x) (.tmp y) t2)(k:IntKind)(p q:Int)(hx:aT a x=.int k p)(hy:aT a y=.int k q)(c:Bool)(hc:(p == q)=c)(h:K (a.put o.dst (.bool c)) w):o.wp P a w K Q:=by
 refine opw_value (.bool c) ?_ h
 have hx':a.eval (.tmp x)=.int k p:=hx
 have hy':a.eval (.tmp y)=.int k q:=hy
 unfold execOp
 subst hc
 simp only [ho,hx',hy']
 simp [go_sem]
def edgesBackK (ops:Array Oper):Bool:=(List.range ops.size).all fun i=>((ops[i]?).map fun o=>o.after.all fun e=>!Region.binds .any e || decide (e.on<i)).getD true
theorem edgesBackK_of {ops:Array Oper}(h:edgesBackK ops=true){i:Nat}{o:Oper}(ho:ops[i]? = some o):∀ e∈o.after,Region.binds .any e=true→e.on<i:=by
 have hi:i<ops.size:=(Array.getElem?_eq_some_iff.1 ho).1
 have h1:=List.all_eq_true.1 h i (List.mem_range.2 hi)
 rw [ho] at h1
 simp only [Option.map_some,Option.getD_some] at h1
 refine fun e he hb=>?_
 obtain ⟨j,hj,rfl⟩:=Array.mem_iff_getElem.1 he
 have:=(Array.all_eq_true.1 h1) j hj
 simpa [hb] using this
theorem all_listedK {ops:Array Oper}{listed:Array Bool}(he:edgesBackK ops=true)(hz:listed.size=ops.size)(h:Region.ready .any ops listed = []):∀ i,i<ops.size→listed.getD i false=true:=by
 intro i
 induction i using Nat.strongRecOn with
 | ind i ih =>
  intro hi
  cases hl:listed.getD i false with
  | true=>rfl
  | false =>
   exfalso
   have ho:ops[i]? = some ops[i]:=by simp [hi]
   have hm:i∈Region.ready .any ops listed:=mem_ready.2 ⟨by
    have:i<listed.size:=hz ▸ hi
    simp [this] at hl ⊢
    exact hl,_,ho,fun e hee hb=>ih _ ((edgesBackK_of he ho) e hee hb) (Nat.lt_trans ((edgesBackK_of he ho) e hee hb) hi)⟩
   rw [h] at hm
   cases hm
theorem wpAny_rk {ops:Array Oper}{S:RSpec}{D:List Nat}{B:Nat}{w0:World}{a0:Act}(he:edgesBackK ops=true)(hs:StepsRK P Q ops S D B w0 a0 0 ops.toList)
  (hend:∀ l a w,RI S D B w0 a0 l a w→(∀ k,l k=true)→Q .normal a w) :
  ∀ (fuel:Nat) (listed:Array Bool) (a:Act) (w:World),listed.size=ops.size→listed.toList.count false≤fuel→RI S D B w0 a0 (fun k=>listed.getD k true) a w→wpAny P .any ops Q fuel listed a w:=by
 have full:∀ listed:Array Bool,listed.size=ops.size→(∀ k,k<ops.size→listed.getD k false=true)→∀ k,listed.getD k true=true:=fun listed hz h k=>by
  by_cases hk:k<listed.size
  ·have:=h k (hz ▸ hk)
   simp [hk] at this ⊢
   exact this
  ·simp [Array.getElem?_eq_none (Nat.le_of_not_lt hk)]
 intro fuel
 induction fuel with
 | zero =>
  intro listed a w hz hc hI
  have hall:∀ k,k<ops.size→listed.getD k false=true:=fun k hk=>by
   have hk':k<listed.size:=hz ▸ hk
   have h0:listed.toList.count false=0:=Nat.le_zero.1 hc
   have:=List.count_eq_zero.1 h0
   cases hv:listed[k] with
   | true=>simp [hk',hv]
   | false=>exact absurd (by rw [← hv]; exact Array.mem_toList_iff.2 (Array.getElem_mem hk')) this
  have hr:Region.ready .any ops listed = []:=by
   refine List.eq_nil_iff_forall_not_mem.2 (fun i hi=>?_)
   obtain ⟨h1,o,ho,_⟩:=mem_ready.1 hi
   have hi':i<ops.size:=(Array.getElem?_eq_some_iff.1 ho).1
   have h2:=hall i hi'
   have hi2:i<listed.size:=hz ▸ hi'
   simp [hi2] at h1 h2
   rw [h1] at h2
   cases h2
  exact ⟨hr,hend _ _ _ hI (full _ hz hall)⟩
 | succ fuel ih =>
  intro listed a w hz hc hI
  refine ⟨fun hr=>hend _ _ _ hI (full _ hz (all_listedK he hz hr)),fun i hi=>?_⟩
  obtain ⟨h1,o,ho,hed⟩:=mem_ready.1 hi
  have hi':i<ops.size:=(Array.getElem?_eq_some_iff.1 ho).1
  have hi2:i<listed.size:=hz ▸ hi'
  have hf:listed[i]=false:=by simpa [hi2] using h1
  refine wpOp_step ho (fun K' hK=>?_)
  refine hs i o (by simpa using ho) _ a w hI (by simp [hi2,hf]) (fun e hee hb=>?_) K' (fun a' w' hI'=>hK a' w' (ih _ a' w' (by simpa using hz) ?_ ?_))
  ·have h3:=hed e hee hb
   by_cases hk:e.on<listed.size
   ·simp [hk] at h3 ⊢
    exact h3
   ·simp [Array.getElem?_eq_none (Nat.le_of_not_lt hk)]
  ·have hcs:(listed.setIfInBounds i true).toList.count false+1=listed.toList.count false:=by
    have hm:0<listed.toList.count false:=List.count_pos_iff.2 (by rw [← hf]; exact Array.mem_toList_iff.2 (Array.getElem_mem hi2))
    have e1:(listed.toList[i] == false)=true:=by simp [hf]
    have e2:¬ ((true == false)=true):=by decide
    rw [Array.toList_setIfInBounds,List.count_set (by simpa using hi2),if_pos e1,if_neg e2]
    omega
   omega
  ·have:(fun k=>(listed.setIfInBounds i true).getD k true)=upd (fun k=>listed.getD k true) (0+i):=by
    funext k
    by_cases e:k=i
    ·subst e
     simp [upd,hi2]
    ·simp [upd,e,Array.getElem?_setIfInBounds_ne (Ne.symm e)]
   rw [this]
   exact hI'
theorem wp_region_rk {id:Nat}{ops:Array Oper}{a:Act}{w:World}(S:RSpec)(D:List Nat)(B:Nat)(G:Act→Prop)(hm:P.follows .mixedOrders=true)(hn:S.m=ops.size)(he:edgesBackK ops=true)(hp:(S.pres.drop S.m).all List.isEmpty=true)(hG:G a)
  (hst:∀ k,k<S.n→StB (S.fact k)) (h0:∀ k,S.m≤k→k<S.n→S.fact k (aT a (S.slot k)) w)
  (hs:∀ a0,G a0→StepsRK P Q ops S D B w a0 0 ops.toList)
  (hend:∀ a' w',Fr D a a'→Below B w w'→(∀ k,k<S.n→S.kill k = []→S.fact k (aT a' (S.slot k)) w')→Q .normal a' w'):(Code.region id ops true).wp P Q a w:=by
 refine wp_region_any hm (wpAny_rk he (hs a hG) (fun l a' w' hI hl=>hend a' w' hI.fr hI.bel (fun k hk h0=>hI.fact k hk (hl k) (by simp [h0]))) ops.size _ a _ (by simp) (by simp) ?_)
 refine ri_start (Below.refl _ _).drew (fun k hl=>?_) (fun k hk=>?_) hp (fun k h1 h2=>hst k h2 _ _ _ (h0 k h1 h2) (Below.refl _ _).drew)
 ·rw [hn]
  by_cases hk:k<ops.size
  ·simp [hk] at hl
  ·omega
 ·rw [hn] at hk
  simp [Array.getElem?_eq_none (show (Array.replicate ops.size false).size≤k by simpa using hk)]
end
open Go.RowKit
theorem RI.storel {S:RSpec}{D:List Nat}{B:Nat}{w0:World}{a0:Act}{l:Nat→Bool}{a:Act}{w:World}(h:RI S D B w0 a0 l a w)(i:Nat){w':World}(hpre:∀ j∈S.pre i,l j=true)
  (hb:Below B w0 w') (hst:∀ k,k<S.n→k≠i→l k=true→(∀ j∈S.kill k,l j=false)→i∉S.kill k→∀ v,S.fact k v w→S.fact k v w') (hf:S.fact i (aT a (S.slot i)) w'):RI S D B w0 a0 (upd l i) (a.put none undef) w':=by
 refine ⟨h.fr,hb,fun k hk=>upd_mono (h.vt k hk),fun k hk hl j hj=>?_,fun k hk hl hkill=>?_⟩
 ·by_cases e:k=i
  ·subst e
   exact upd_mono (hpre j hj)
  ·rw [upd_ne e] at hl
   exact upd_mono (h.cl k hk hl j hj)
 ·by_cases e:k=i
  ·subst e
   exact hf
  ·rw [upd_ne e] at hl
   refine hst k hk e hl (fun j hj=>of_upd (hkill j hj)) (fun hm=>?_) _ (h.fact k hk hl (fun j hj=>of_upd (hkill j hj)))
   have:=hkill i hm
   rw [upd_same] at this
   cases this
open Go.RowKit
def dg (n:Int):List Int:=(Lib.itoa n).map fun b=>(b.toNat:Int)
def ftOne (p:PT):List Int:=dg p.attr++61::(foldL p.val++[10])
def ft:List PT→List Int
 | []=>[]
 | p::ps=>ftOne p++ft ps
theorem cut_eq {c:Int}:∀ (a b r s:List Int),c∉a→c∉b→a++c::r=b++c::s→a=b∧r=s
 | [],[],r,s,_,_,h=>by simpa using h
 | [],y::b,r,s,_,hb,h=>by
  simp only [List.nil_append,List.cons_append,List.cons.injEq] at h
  exact absurd (by rw [h.1]; exact List.Mem.head _) hb
 | x::a,[],r,s,ha,_,h=>by
  simp only [List.nil_append,List.cons_append,List.cons.injEq] at h
  exact absurd (by rw [← h.1]; exact List.Mem.head _) ha
 | x::a,y::b,r,s,ha,hb,h=>by
  simp only [List.cons_append,List.cons.injEq] at h
  have:=cut_eq a b r s (fun q=>ha (List.Mem.tail _ q)) (fun q=>hb (List.Mem.tail _ q)) h.2
  exact ⟨by rw [h.1,this.1],this.2⟩
theorem dg_table:((List.range 21).all fun m=>!((dg (m:Int)).contains 61) && (List.range 21).all fun n=>decide (m=n) || !(dg (m:Int) == dg (n:Int)))=true:=by decide +kernel
theorem dg_61 (n:Int)(h0:1≤n)(h1:n≤20):(61:Int)∉dg n:=by
 obtain ⟨k,rfl⟩:∃ k:Nat,n=k:=⟨n.toNat,by omega⟩
 have:=List.all_eq_true.1 dg_table k (List.mem_range.2 (by omega))
 simp only [Bool.and_eq_true,Bool.not_eq_true',List.contains_eq_mem,decide_eq_false_iff_not] at this
 exact this.1
theorem dg_inj (m n:Int)(h0:1≤m)(h1:m≤20)(h2:1≤n)(h3:n≤20)(h:dg m=dg n):m=n:=by
 obtain ⟨k,rfl⟩:∃ k:Nat,m=k:=⟨m.toNat,by omega⟩
 obtain ⟨j,rfl⟩:∃ k:Nat,n=k:=⟨n.toNat,by omega⟩
 have:=List.all_eq_true.1 dg_table k (List.mem_range.2 (by omega))
 simp only [Bool.and_eq_true] at this
 have h4:=List.all_eq_true.1 this.2 j (List.mem_range.2 (by omega))
 simp only [h,Bool.or_eq_true,decide_eq_true_eq,beq_self_eq_true,Bool.not_true,Bool.false_eq_true,or_false] at h4
 rw [h4]
theorem strNums_inj {xs ys:List Int}(hx:∀ k,0≤xs.getD k 0∧xs.getD k 0≤255)(hy:∀ k,0≤ys.getD k 0∧ys.getD k 0≤255)(h:strOfNums xs=strOfNums ys):xs=ys:=by
 have hl:xs.length=ys.length:=by rw [← strOfNums_size xs,← strOfNums_size ys,h]
 have hd:xs.map (fun n=>UInt8.ofNat n.toNat)=ys.map (fun n=>UInt8.ofNat n.toNat):=by rw [← strOfNums_data,← strOfNums_data,h]
 apply List.ext_getElem hl
 intro i h1 h2
 have e:UInt8.ofNat (xs[i]).toNat=UInt8.ofNat (ys[i]).toNat:=by
  have:=congrArg (fun l=>l[i]?) hd
  simpa [h1,h2] using this
 have e2:=congrArg UInt8.toNat e
 have bx:=hx i
 have by':=hy i
 simp only [List.getD_eq_getElem?_getD,List.getElem?_eq_getElem h1,List.getElem?_eq_getElem h2,Option.getD_some] at bx by'
 simp only [UInt8.toNat_ofNat'] at e2
 omega
theorem fo_rng (s:ByteArray):∀ k,printP s k→∀ b∈(fo s k).1,32≤b∧b≤126
 | 0,_,b,hb=>by simp [fo] at hb
 | k+1,hp,b,hb=>by
  have ih:=fo_rng s k (fun j hj=>hp j (by omega))
  have h:=hp k (by omega)
  rw [fo] at hb
  split at hb
  ·exact ih b hb
  ·simp only [List.mem_append,List.mem_singleton] at hb
   rcases hb with (hb | hb) | hb
   ·exact ih b hb
   ·split at hb
    ·simp only [List.mem_singleton] at hb; omega
    ·simp at hb
   ·subst hb
    unfold low
    split <;> omega
theorem foldL_rng (x:PT)(h:partP x):∀ b∈foldL x.val,32≤b∧b≤126:=fun b hb=>fo_rng x.val x.val.size h.2.2.1 b hb
theorem foldL_10 (x:PT)(h:partP x):(10:Int)∉foldL x.val:=fun e=>by have:=foldL_rng x h 10 e; omega
theorem getD_rng {l:List Int}(h:∀ b∈l,32≤b∧b≤126)(k:Nat):0≤l.getD k 0∧l.getD k 0≤255:=by
 rw [List.getD_eq_getElem?_getD]
 by_cases hk:k<l.length
 ·rw [List.getElem?_eq_getElem hk]
  have:=h _ (List.getElem_mem hk)
  simp only [Option.getD_some]
  omega
 ·rw [List.getElem?_eq_none (by omega)]; simp
theorem FS_eq {x y:PT}(hx:partP x)(hy:partP y):FS x.val=FS y.val↔foldL x.val=foldL y.val :=
 ⟨fun h=>strNums_inj (getD_rng (foldL_rng x hx)) (getD_rng (foldL_rng y hy)) h,fun h=>by unfold FS; rw [h]⟩
theorem ft_cons (p:PT)(ps:List PT):ft (p::ps)=dg p.attr++61::(foldL p.val++10::ft ps):=by
 rw [ft,ftOne]; simp
theorem ft_inj:∀ (xs ys:List PT),(∀ p∈xs,partP p)→(∀ p∈ys,partP p)→(ft xs=ft ys↔xs.length=ys.length∧∀ k,k<ys.length→alikeP (xs.getD k default) (ys.getD k default))
 | [],[],_,_=>by simp [ft]
 | [],y::ys,_,_=>by rw [ft_cons]; simp [ft]
 | x::xs,[],_,_=>by rw [ft_cons]; simp [ft]
 | x::xs,y::ys,hx,hy=>by
  have ih:=ft_inj xs ys (fun p q=>hx p (List.Mem.tail _ q)) (fun p q=>hy p (List.Mem.tail _ q))
  have px:=hx x (List.Mem.head _)
  have py:=hy y (List.Mem.head _)
  rw [ft_cons,ft_cons]
  constructor
  ·intro h
   obtain ⟨e1,e2⟩:=cut_eq _ _ _ _ (dg_61 _ px.1.1 px.1.2) (dg_61 _ py.1.1 py.1.2) h
   obtain ⟨e3,e4⟩:=cut_eq _ _ _ _ (foldL_10 x px) (foldL_10 y py) e2
   obtain ⟨e5,e6⟩:=ih.1 e4
   refine ⟨by simp [e5],fun k hk=>?_⟩
   cases k with
   | zero=>exact ⟨dg_inj _ _ px.1.1 px.1.2 py.1.1 py.1.2 e1,(FS_eq px py).2 e3⟩
   | succ k=>exact e6 k (by simpa using hk)
  ·rintro ⟨e1,e2⟩
   have h0:=e2 0 (by simp)
   have e4:=ih.2 ⟨by simpa using e1,fun k hk=>e2 (k+1) (by simpa using hk)⟩
   have a1:x.attr=y.attr:=h0.1
   have a2:foldL x.val=foldL y.val:=(FS_eq px py).1 h0.2
   rw [a1,a2,e4]
theorem nameP_all {xs:List PT}(h:nameP xs):∀ p∈xs,partP p:=fun p hp=>by
 obtain ⟨k,hk,rfl⟩:=List.getElem_of_mem hp
 have:=h.2 k hk
 rw [List.getD_eq_getElem?_getD,List.getElem?_eq_getElem hk] at this
 exact this
theorem ft_same {xs ys:List PT}(hx:nameP xs)(hy:nameP ys):ft xs=ft ys↔sameP xs ys:=by
 rw [ft_inj xs ys (nameP_all hx) (nameP_all hy)]
 unfold sameP underP
 constructor
 ·rintro ⟨h1,h2⟩
  exact ⟨h1,hx,hy,by omega,h2⟩
 ·rintro ⟨h1,_,_,_,h2⟩
  exact ⟨h1,h2⟩
def reaP (x:CP)(r:Int):Prop:=(r=7∧0≤x.base)∨((1≤r∧r≤6)∧x.scope / 2 ^ r.toNat % 2=1)
def entP (x:CP)(y:GP):Prop:=(1≤y.ser∧y.ser≤4611686018427387904)∧timeP y.tm∧y.tm≤x.tm∧(x.ind=true→calledP y.parts)∧(x.ind=false→y.parts = [])∧reaP x y.rs
def crhP (x:CP):Prop:=calledP x.parts∧(0≤x.num∧x.num≤1099511627776)∧(-1≤x.base∧x.base≤x.num - 1)∧timeP x.tm∧timeP x.next∧x.tm≤x.next∧(2≤x.scope∧x.scope≤126∧x.scope % 2=0)∧x.ents.length≤60∧x.sig.length≤500
def crlP (x:CP):Prop:=crhP x∧(∀ i,i<x.ents.length→entP x (x.ents.getD i default))∧∀ i k,i<x.ents.length→k<i→¬ likeP (x.ents.getD k default) (x.ents.getD i default)
theorem entP_name {x:CP}{y:GP}(h:entP x y):nameP y.parts:=by
 cases hi:x.ind with
 | true=>exact (h.2.2.2.1 hi).1
 | false=>rw [h.2.2.2.2.1 hi]; exact ⟨by simp,fun k hk=>absurd hk (Nat.not_lt_zero _)⟩
open Go.ChangeShapes Go.WideShapes Go.ChangeAt Go.RowKit
def OpensP (y:PT)(cs:List Value):Prop:=cs = [.int .i64 y.attr,.string y.val]∧y.val.size≤9223372036854775807
set_option maxRecDepth 20000 in
theorem open_part {H:Type}{enc:TypeId × Value→H}{W:World}{fuel:Nat}{cs:List Value}{x:DataW H × List MemPlace}(h:DataW.trod enc Tryz.prog W 0 (fun _=>true) true fuel 118 cs=some x):∃ y,OpensP y cs:=by
 obtain ⟨xs,m,rfl,_,hl,hxl,hf⟩:=DataW.trod_struct Tryz.underlying118 h
 have hl2:cs.length=2:=hl.trans (by kernel_rfl)
 have hx2:xs.length=2:=hxl
 obtain ⟨c0,c1,rfl⟩:∃ c0 c1,cs = [c0,c1]:=by
  match cs,hl2 with
  | [c0,c1],_=>exact ⟨c0,c1,rfl⟩
 obtain ⟨x0,x1,rfl⟩:∃ c0 c1,xs = [c0,c1]:=by
  match xs,hx2 with
  | [c0,c1],_=>exact ⟨c0,c1,rfl⟩
 have e1:Tryz.prog.cellsOf 2=1:=by kernel_rfl
 have e2:Tryz.prog.cellsOf 9=1:=by kernel_rfl
 have f0:DataW.trod enc Tryz.prog W 0 (fun _=>true) true m 2 ((([c0,c1]:List Value).drop 0).take (Tryz.prog.cellsOf 2))=some x0:=hf 0 _ rfl
 rw [e1] at f0
 have f1:DataW.trod enc Tryz.prog W 0 (fun _=>true) true m 9 ((([c0,c1]:List Value).drop 1).take (Tryz.prog.cellsOf 9))=some x1:=hf 1 _ rfl
 rw [e2] at f1
 obtain ⟨n0,h0,_,_⟩:=DataW.trod_int Tryz.underlying2 f0
 obtain ⟨s1,h1,_,hs⟩:=DataW.trod_string Tryz.underlying9 f1
 simp at h0 h1
 subst h0 h1
 exact ⟨⟨n0,s1⟩,rfl,by unfold maxLen at hs; show s1.size≤_; omega⟩
set_option maxRecDepth 20000 in
theorem open_parts {H:Type}{enc:TypeId × Value→H}{W:World}{fuel:Nat}{cs:List Value}{x:DataW H × List MemPlace}(h:DataW.trod enc Tryz.prog W 0 (fun _=>true) true fuel 22 cs=some x):∃ a n c xs,cs = [.slice a n c]∧Pts W a n xs:=by
 rcases DataW.trod_slice Tryz.underlying22 h with ⟨rfl,_⟩ | ⟨a,len,cap,elems,rest,n,rfl,rfl,_,_,hl,hm,hlen,hel,_,_⟩
 ·exact ⟨none,0,0,[],rfl,⟨rfl,by decide,fun k hk=>absurd hk (by omega)⟩⟩
 ·have ec:Tryz.prog.cellsOf 118=2:=by kernel_rfl
  rw [ec] at hel
  have each:∀ i,i<len→∃ y:PT,∃ cs',W.cells? 0 (a.add (i * 2)) 2=some cs'∧OpensP y cs':=by
   intro i hi
   have he:=hel i hi
   rw [List.getElem?_eq_getElem (by omega)] at he
   cases hc:W.cells? 0 (a.add (i * 2)) 2 with
   | none=>rw [hc] at he; cases he
   | some cs' =>
    rw [hc] at he
    obtain ⟨y,hy⟩:=open_part he
    exact ⟨y,cs',rfl,hy⟩
  obtain ⟨y,hy⟩:=Go.Deep.choose_lt each
  have hm':len≤9223372036854775807:=by unfold maxLen at hm; omega
  refine ⟨some a,len,cap,(List.range len).map y,rfl,⟨by simp,hm',fun k hk=>?_⟩⟩
  obtain ⟨cs',hcs,rfl,hnk⟩:=hy k hk
  obtain ⟨_,_,hcell⟩:=World.cells?_some hcs
  obtain ⟨b,off,spot⟩:=a
  have hs:spot=none:=by
   obtain ⟨cs0,hcs0,_⟩:=hy 0 (by omega)
   obtain ⟨_,hl0,hcell0⟩:=World.cells?_some hcs0
   have h00:=hcell0 0 (by omega)
   rw [List.getElem?_eq_getElem (by omega)] at h00
   simpa [Addr.add] using World.cell?_spot h00
  subst hs
  have ey:((List.range len).map y).getD k default=y k:=by simp [hk]
  rw [ey]
  have cc:∀ j,j<2→W.cell? ⟨b,off+k * 2+j,none⟩ = [Value.int .i64 (y k).attr,.string (y k).val][j]?:=by
   intro j hj
   have:=hcell j hj
   rw [Addr.add_lit,Addr.add_lit] at this
   exact this
  exact ⟨b,off,rfl,World.block_lt_of_cell? W _ (cc 0 (by omega)),⟨cc 0 (by omega),cc 1 (by omega)⟩,hnk⟩
set_option maxRecDepth 20000 in
theorem open_name {H:Type}{enc:TypeId × Value→H}{W:World}{fuel:Nat}{cs:List Value}{x:DataW H × List MemPlace}(h:DataW.trod enc Tryz.prog W 0 (fun _=>true) true fuel 24 cs=some x):∃ a n c xs,cs = [.slice a n c]∧Pts W a n xs:=by
 obtain ⟨xs,m,rfl,_,hl,hxl,hf⟩:=DataW.trod_struct Tryz.underlying24 h
 have hl2:cs.length=1:=hl.trans (by kernel_rfl)
 have hx2:xs.length=1:=hxl
 obtain ⟨c0,rfl⟩:∃ c0,cs = [c0]:=by
  match cs,hl2 with
  | [c0],_=>exact ⟨c0,rfl⟩
 obtain ⟨x0,rfl⟩:∃ c0,xs = [c0]:=by
  match xs,hx2 with
  | [c0],_=>exact ⟨c0,rfl⟩
 have e1:Tryz.prog.cellsOf 22=1:=by kernel_rfl
 have f0:DataW.trod enc Tryz.prog W 0 (fun _=>true) true m 22 ((([c0]:List Value).drop 0).take (Tryz.prog.cellsOf 22))=some x0:=hf 0 _ rfl
 rw [e1] at f0
 exact open_parts f0
end Go.Proofs.YtnmplldhdfingaaGreatDoor
