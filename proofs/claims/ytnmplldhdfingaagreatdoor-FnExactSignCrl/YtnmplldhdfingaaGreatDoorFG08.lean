import Derived.Laws.Tables
import Derived.RegionTactic
import Derived.Tactics
import Derived.Lib.SlBytesConst
import Derived.Laws.Closers25b
import Derived.Deep.RegionHeldLaw
import Derived.Test.YtnmplldhdfingaaGreatDoorFG03
import Derived.Test.YtnmplldhdfingaaGreatDoorFG02
set_option maxRecDepth 10000
set_option maxHeartbeats 8000000
set_option linter.unusedVariables false
namespace Go.Proofs.YtnmplldhdfingaaGreatDoor
open Go.RowKit
def aT (a:Act)(t:Nat):Value:=a.tmps.getD t undef
def upd (l:Nat→Bool)(i:Nat):Nat→Bool:=fun k=>decide (k=i) || l k
theorem upd_same (l:Nat→Bool)(i:Nat):upd l i i=true:=by simp [upd]
theorem upd_ne {l:Nat→Bool}{i k:Nat}(h:k≠i):upd l i k=l k:=by simp [upd,h]
theorem upd_mono {l:Nat→Bool}{i k:Nat}(h:l k=true):upd l i k=true:=by simp [upd,h]
theorem of_upd {l:Nat→Bool}{i k:Nat}(h:upd l i k=false):l k=false:=by
 simp [upd] at h
 exact h.2
structure Fr (D:List Nat)(a0 a:Act):Prop where
 size:a.tmps.size=a0.tmps.size
 defers:a.defers=a0.defers
 same:∀ t,t∉D→aT a t=aT a0 t
theorem Fr.refl (D:List Nat)(a:Act):Fr D a a:=⟨rfl,rfl,fun _ _=>rfl⟩
theorem aT_put_ne {a:Act}{d t:Nat}{v:Value}(h:d≠t):aT (a.put (some d) v) t=aT a t:=by
 simp [aT,Act.put,Array.getElem?_setIfInBounds_ne h]
theorem aT_put_eq {a:Act}{d:Nat}{v:Value}(h:d<a.tmps.size):aT (a.put (some d) v) d=v:=by
 simp [aT,Act.put,h]
theorem Fr.put {D:List Nat}{a0 a:Act}{d:Nat}(h:Fr D a0 a)(hd:d∈D)(v:Value):Fr D a0 (a.put (some d) v) :=
 ⟨by simp [Act.put,h.size],h.defers,fun t ht=>(aT_put_ne (fun e=>ht (by rw [← e]; exact hd))).trans (h.same t ht)⟩
def puts (f:Nat→Value):List Nat→Act→Act
 | [],a=>a
 | d::D,a=>puts f D (a.put (some d) (f d))
theorem puts_size (f:Nat→Value):∀ (D:List Nat) (a:Act),(puts f D a).tmps.size=a.tmps.size
 | [],_=>rfl
 | d::D,a=>by rw [puts,puts_size f D]; simp [Act.put]
theorem puts_defers (f:Nat→Value):∀ (D:List Nat) (a:Act),(puts f D a).defers=a.defers
 | [],_=>rfl
 | d::D,a=>by rw [puts,puts_defers f D]; rfl
theorem puts_at (f:Nat→Value):∀ (D:List Nat) (a:Act) (t:Nat),t<a.tmps.size→aT (puts f D a) t=if t∈D then f t else aT a t
 | [],_,_,_=>by simp [puts]
 | d::D,a,t,ht=>by
  rw [puts,puts_at f D _ t (by simpa [Act.put] using ht)]
  by_cases h:t∈D
  ·simp [h]
  ·by_cases h2:t=d
   ·subst h2
    simp [h,aT_put_eq ht]
   ·simp [h,h2,aT_put_ne (Ne.symm h2)]
theorem act_ext {a b:Act}(hs:a.tmps.size=b.tmps.size)(hd:a.defers=b.defers)(h:∀ t,t<a.tmps.size→aT a t=aT b t):a=b:=by
 obtain ⟨x,dx⟩:=a
 obtain ⟨y,dy⟩:=b
 simp only at hd hs
 subst hd
 congr 1
 refine Array.ext hs (fun i h1 h2=>?_)
 have:=h i h1
 simpa [aT,h1,h2] using this
theorem Fr.eq {D:List Nat}{a0 a:Act}(h:Fr D a0 a):a=puts (aT a) D a0:=by
 refine act_ext (h.size.trans (puts_size _ _ _).symm) (h.defers.trans (puts_defers _ _ _).symm) (fun t ht=>?_)
 rw [puts_at _ _ _ _ (h.size ▸ ht)]
 by_cases hd:t∈D
 ·simp [hd]
 ·simp [hd,h.same t hd]
structure RSpec where
 m:Nat
 n:Nat
 slots:List Nat
 fact:Nat→Value→World→Prop
 kills:List (List Nat)
 pres:List (List Nat)
def RSpec.slot (S:RSpec)(k:Nat):Nat:=S.slots.getD k 0
def RSpec.kill (S:RSpec)(k:Nat):List Nat:=S.kills.getD k []
def RSpec.pre (S:RSpec)(k:Nat):List Nat:=S.pres.getD k []
structure RI (S:RSpec)(D:List Nat)(B:Nat)(w0:World)(a0:Act)(l:Nat→Bool)(a:Act)(w:World):Prop where
 fr:Fr D a0 a
 bel:Below B w0 w
 vt:∀ k,S.m≤k→l k=true
 cl:∀ k,k<S.n→l k=true→∀ j∈S.pre k,l j=true
 fact:∀ k,k<S.n→l k=true→(∀ j∈S.kill k,l j=false)→S.fact k (aT a (S.slot k)) w
def StB (p:Value→World→Prop):Prop:=∀ v w w',p v w→Below w.heap.size w w'→p v w'
def RSpec.free (S:RSpec)(i d:Nat):Bool:=(List.range S.n).all fun k=>k == i || S.slot k != d || (S.pre k).contains i
theorem RSpec.free_of {S:RSpec}{i d:Nat}(h:S.free i d=true){k:Nat}(hk:k<S.n)(hne:k≠i)(hs:S.slot k=d):i∈S.pre k:=by
 have:=List.all_eq_true.1 h k (List.mem_range.2 hk)
 simpa [hne,hs] using this
theorem RI.put {S:RSpec}{D:List Nat}{B:Nat}{w0:World}{a0:Act}{l:Nat→Bool}{a:Act}{w:World}(h:RI S D B w0 a0 l a w)(i d:Nat){v:Value}{w':World}(hpre:S.pre i = [])
  (hd:D.contains d=true) (hs:d<a0.tmps.size) (hsl:S.slot i=d) (hli:l i=false) (hne:S.free i d=true) (hB:B≤w0.heap.size)
  (hst:∀ k,k<S.n→StB (S.fact k)) (hb:Below w.heap.size w w') (hf:S.fact i v w'):RI S D B w0 a0 (upd l i) (a.put (some d) v) w':=by
 refine ⟨h.fr.put (List.contains_iff_mem.1 hd) v,h.bel.trans (hb.mono (Nat.le_trans hB h.bel.size)),fun k hk=>upd_mono (h.vt k hk),fun k hk hl j hj=>?_,fun k hk hl hkill=>?_⟩
 ·by_cases e:k=i
  ·subst e
   rw [hpre] at hj
   cases hj
  ·rw [upd_ne e] at hl
   exact upd_mono (h.cl k hk hl j hj)
 ·by_cases e:k=i
  ·subst e
   rw [hsl,aT_put_eq (by rw [h.fr.size]; exact hs)]
   exact hf
  ·rw [upd_ne e] at hl
   have hsk:S.slot k≠d:=fun e2=>by
    have:=h.cl k hk hl i (S.free_of hne hk e e2)
    rw [hli] at this
    cases this
   rw [aT_put_ne (Ne.symm hsk)]
   exact hst k hk _ _ _ (h.fact k hk hl (fun j hj=>of_upd (hkill j hj))) hb
theorem RI.store {S:RSpec}{D:List Nat}{B:Nat}{w0:World}{a0:Act}{l:Nat→Bool}{a:Act}{w:World}(h:RI S D B w0 a0 l a w)(i:Nat){w':World}(hpre:∀ j∈S.pre i,l j=true)
  (hb:Below B w0 w') (hst:∀ k,k<S.n→k≠i→i∉S.kill k→∀ v,S.fact k v w→S.fact k v w') (hf:S.fact i (aT a (S.slot i)) w'):RI S D B w0 a0 (upd l i) (a.put none undef) w':=by
 refine ⟨h.fr,hb,fun k hk=>upd_mono (h.vt k hk),fun k hk hl j hj=>?_,fun k hk hl hkill=>?_⟩
 ·by_cases e:k=i
  ·subst e
   exact upd_mono (hpre j hj)
  ·rw [upd_ne e] at hl
   exact upd_mono (h.cl k hk hl j hj)
 ·by_cases e:k=i
  ·subst e
   exact hf
  ·rw [upd_ne e] at hl
   refine hst k hk e (fun hm=>?_) _ (h.fact k hk hl (fun j hj=>of_upd (hkill j hj)))
   have:=hkill i hm
   rw [upd_same] at this
   cases this
theorem RI.vot {S:RSpec}{D:List Nat}{B:Nat}{w0:World}{a0:Act}{l:Nat→Bool}{a:Act}{w:World}(h:RI S D B w0 a0 l a w)(k:Nat)(hk:k<S.n)(hm:S.m≤k)(hkill:S.kill k = []):S.fact k (aT a (S.slot k)) w:=h.fact k hk (h.vt k hm) (by simp [hkill])
theorem RI.vot1 {S:RSpec}{D:List Nat}{B:Nat}{w0:World}{a0:Act}{l:Nat→Bool}{a:Act}{w:World}(h:RI S D B w0 a0 l a w)(k i:Nat)(hk:k<S.n)(hm:S.m≤k)(hli:l i=false)(hkill:S.kill k = [i]):S.fact k (aT a (S.slot k)) w:=h.fact k hk (h.vt k hm) (by simp [hkill,hli])
theorem RI.got {S:RSpec}{D:List Nat}{B:Nat}{w0:World}{a0:Act}{l:Nat→Bool}{a:Act}{w:World}(h:RI S D B w0 a0 l a w)(k:Nat)(hk:k<S.n)(hl:l k=true)(hkill:S.kill k = []):S.fact k (aT a (S.slot k)) w:=h.fact k hk hl (by simp [hkill])
theorem RI.got1 {S:RSpec}{D:List Nat}{B:Nat}{w0:World}{a0:Act}{l:Nat→Bool}{a:Act}{w:World}(h:RI S D B w0 a0 l a w)(k i:Nat)(hk:k<S.n)(hl:l k=true)(hli:l i=false)(hkill:S.kill k = [i]):S.fact k (aT a (S.slot k)) w:=h.fact k hk hl (by simp [hkill,hli])
theorem edge {l:Nat→Bool}{o:Oper}(he:∀ e∈o.after,Region.binds .any e=true→l e.on=true)(j:Nat)(h:(o.after.toList.any fun e=>Region.binds .any e && (e.on == j))=true):l j=true:=by
 obtain ⟨e,hm,h2⟩:=List.any_eq_true.1 h
 simp only [Bool.and_eq_true,beq_iff_eq] at h2
 rw [← h2.2]
 exact he e (Array.mem_toList_iff.1 hm) h2.1
theorem ownsRow_box {B e k n g t:Nat}{w w':World}{v:Value}{xs:List Value}{cs:Array Value}{fr:Nat × Nat}(h:w.ownsRow B e k v n xs)(hg:w.heap[g]? = some (.cells cs t fr))(hne:t≠e)(ht:Touch g (g+1) w w'):w'.ownsRow B e k v n xs:=by
 refine ⟨h.1,?_⟩
 rcases h.2 with h0 | ⟨g',cap,cur,hv,hb,hh,rest⟩
 ·exact .inl h0
 ·have:g'≠g:=fun e2=>by
   subst e2
   rw [hg] at hh
   simp only [Option.some.injEq,Obj.cells.injEq] at hh
   exact hne hh.2.1
  exact .inr ⟨g',cap,cur,hv,hb,(ht.block g' (Array.getElem?_eq_some_iff.1 hh).1 (by omega)).trans hh,rest⟩
theorem box_box {g g' t t':Nat}{w w':World}{cs cs':Array Value}{fr fr':Nat × Nat}(h:w.heap[g']? = some (.cells cs' t' fr'))(hg:w.heap[g]? = some (.cells cs t fr))(hne:t≠t')(ht:Touch g (g+1) w w'):w'.heap[g']? = some (.cells cs' t' fr'):=by
 have:g'≠g:=fun e2=>by
  subst e2
  rw [hg] at h
  simp only [Option.some.injEq,Obj.cells.injEq] at h
  exact hne h.2.1
 exact (ht.block g' (Array.getElem?_eq_some_iff.1 h).1 (by omega)).trans h
theorem setRow_touch (w:World)(g:Nat)(cs:Array Value):Touch g (g+1) w (w.setRow g cs) :=
 ⟨rfl,rfl,rfl,by simp [World.setRow],fun k hk ho=>by
  simp only [World.setRow]
  rw [Array.getElem?_modify,if_neg (by omega)]⟩
theorem below_kept {w w':World}{g:Nat}{o:Obj}(h:w.heap[g]? = some o)(hb:Below w.heap.size w w'):w'.heap[g]? = some o:=(hb.block g (Array.getElem?_eq_some_iff.1 h).1).trans h
section
variable {P:Program} {Q:Exit→Act→World→Prop}
def StepsRI (P:Program)(Q:Exit→Act→World→Prop)(S:RSpec)(D:List Nat)(B:Nat)(w0:World)(a0:Act)(i:Nat)(os:List Oper):Prop :=
 ∀ k o,os[k]? = some o→∀ (l:Nat→Bool) (a:Act) (w:World),RI S D B w0 a0 l a w→l (i+k)=false→(∀ e∈o.after,Region.binds .any e=true→l e.on=true)→∀ K':Act→World→Prop,Hid (∀ a w,RI S D B w0 a0 (upd l (i+k)) a w→K' a w)→o.wp P a w K' Q
theorem StepsRI.nil {S:RSpec}{D:List Nat}{B:Nat}{w0:World}{a0:Act}{i:Nat}:StepsRI P Q S D B w0 a0 i []:=fun k o h=>by simp at h
theorem StepsRI.cons {S:RSpec}{D:List Nat}{B:Nat}{w0:World}{a0:Act}{i:Nat}{o:Oper}{os:List Oper}
  (h:∀ (l:Nat→Bool) (a:Act) (w:World),RI S D B w0 a0 l a w→l i=false→(∀ e∈o.after,Region.binds .any e=true→l e.on=true)→∀ K':Act→World→Prop,Hid (∀ a w,RI S D B w0 a0 (upd l i) a w→K' a w)→o.wp P a w K' Q)
  (hs:StepsRI P Q S D B w0 a0 (i+1) os):StepsRI P Q S D B w0 a0 i (o::os):=fun k o' hk=>by
 cases k with
 | zero =>
  simp only [List.getElem?_cons_zero,Option.some.injEq] at hk
  subst hk
  exact h
 | succ k =>
  simp only [List.getElem?_cons_succ] at hk
  have:=hs k o' hk
  rwa [Nat.add_right_comm] at this
def edgesBack (ops:Array Oper):Bool:=(List.range ops.size).all fun i=>((ops[i]?).map fun o=>o.guard.isNone && o.after.all fun e=>!Region.binds .any e || decide (e.on<i)).getD true
theorem edgesBack_of {ops:Array Oper}(h:edgesBack ops=true){i:Nat}{o:Oper}(ho:ops[i]? = some o):o.guard=none∧∀ e∈o.after,Region.binds .any e=true→e.on<i:=by
 have hi:i<ops.size:=(Array.getElem?_eq_some_iff.1 ho).1
 have h1:=List.all_eq_true.1 h i (List.mem_range.2 hi)
 rw [ho] at h1
 simp only [Option.map_some,Option.getD_some,Bool.and_eq_true,Option.isNone_iff_eq_none] at h1
 refine ⟨h1.1,fun e he hb=>?_⟩
 obtain ⟨j,hj,rfl⟩:=Array.mem_iff_getElem.1 he
 have:=(Array.all_eq_true.1 h1.2) j hj
 simpa [hb] using this
theorem all_listed {ops:Array Oper}{listed:Array Bool}(he:edgesBack ops=true)(hz:listed.size=ops.size)(h:Region.ready .any ops listed = []):∀ i,i<ops.size→listed.getD i false=true:=by
 intro i
 induction i using Nat.strongRecOn with
 | ind i ih =>
  intro hi
  cases hl:listed.getD i false with
  | true=>rfl
  | false =>
   exfalso
   have ho:ops[i]? = some ops[i]:=by simp [hi]
   have hm:i∈Region.ready .any ops listed:=mem_ready.2 ⟨by
    have:i<listed.size:=hz ▸ hi
    simp [this] at hl ⊢
    exact hl,_,ho,fun e hee hb=>ih _ ((edgesBack_of he ho).2 e hee hb) (Nat.lt_trans ((edgesBack_of he ho).2 e hee hb) hi)⟩
   rw [h] at hm
   cases hm
theorem wpAny_ri {ops:Array Oper}{S:RSpec}{D:List Nat}{B:Nat}{w0:World}{a0:Act}(he:edgesBack ops=true)(hs:StepsRI P Q S D B w0 a0 0 ops.toList)
  (hend:∀ l a w,RI S D B w0 a0 l a w→(∀ k,l k=true)→Q .normal a w) :
  ∀ (fuel:Nat) (listed:Array Bool) (a:Act) (w:World),listed.size=ops.size→listed.toList.count false≤fuel→RI S D B w0 a0 (fun k=>listed.getD k true) a w→wpAny P .any ops Q fuel listed a w:=by
 have full:∀ listed:Array Bool,listed.size=ops.size→(∀ k,k<ops.size→listed.getD k false=true)→∀ k,listed.getD k true=true:=fun listed hz h k=>by
  by_cases hk:k<listed.size
  ·have:=h k (hz ▸ hk)
   simp [hk] at this ⊢
   exact this
  ·simp [Array.getElem?_eq_none (Nat.le_of_not_lt hk)]
 intro fuel
 induction fuel with
 | zero =>
  intro listed a w hz hc hI
  have hall:∀ k,k<ops.size→listed.getD k false=true:=fun k hk=>by
   have hk':k<listed.size:=hz ▸ hk
   have h0:listed.toList.count false=0:=Nat.le_zero.1 hc
   have:=List.count_eq_zero.1 h0
   cases hv:listed[k] with
   | true=>simp [hk',hv]
   | false=>exact absurd (by rw [← hv]; exact Array.mem_toList_iff.2 (Array.getElem_mem hk')) this
  have hr:Region.ready .any ops listed = []:=by
   refine List.eq_nil_iff_forall_not_mem.2 (fun i hi=>?_)
   obtain ⟨h1,o,ho,_⟩:=mem_ready.1 hi
   have hi':i<ops.size:=(Array.getElem?_eq_some_iff.1 ho).1
   have h2:=hall i hi'
   have hi2:i<listed.size:=hz ▸ hi'
   simp [hi2] at h1 h2
   rw [h1] at h2
   cases h2
  exact ⟨hr,hend _ _ _ hI (full _ hz hall)⟩
 | succ fuel ih =>
  intro listed a w hz hc hI
  refine ⟨fun hr=>hend _ _ _ hI (full _ hz (all_listed he hz hr)),fun i hi=>?_⟩
  obtain ⟨h1,o,ho,hed⟩:=mem_ready.1 hi
  have hi':i<ops.size:=(Array.getElem?_eq_some_iff.1 ho).1
  have hi2:i<listed.size:=hz ▸ hi'
  have hf:listed[i]=false:=by simpa [hi2] using h1
  refine wpOp_step ho (fun K' hK=>?_)
  have hgd:=(edgesBack_of he ho).1
  have hw:Region.wanted o (yielded ops a.tmps)=true:=by simp [Region.wanted,hgd]
  rw [if_pos hw]
  refine hs i o (by simpa using ho) _ a w hI (by simp [hi2,hf]) (fun e hee hb=>?_) K' (fun a' w' hI'=>hK a' w' (ih _ a' w' (by simpa using hz) ?_ ?_))
  ·have h3:=hed e hee hb
   by_cases hk:e.on<listed.size
   ·simp [hk] at h3 ⊢
    exact h3
   ·simp [Array.getElem?_eq_none (Nat.le_of_not_lt hk)]
  ·have hcs:(listed.setIfInBounds i true).toList.count false+1=listed.toList.count false:=by
    have hm:0<listed.toList.count false:=List.count_pos_iff.2 (by rw [← hf]; exact Array.mem_toList_iff.2 (Array.getElem_mem hi2))
    have e1:(listed.toList[i] == false)=true:=by simp [hf]
    have e2:¬ ((true == false)=true):=by decide
    rw [Array.toList_setIfInBounds,List.count_set (by simpa using hi2),if_pos e1,if_neg e2]
    omega
   omega
  ·have:(fun k=>(listed.setIfInBounds i true).getD k true)=upd (fun k=>listed.getD k true) (0+i):=by
    funext k
    by_cases e:k=i
    ·subst e
     simp [upd,hi2]
    ·simp [upd,e,Array.getElem?_setIfInBounds_ne (Ne.symm e)]
   rw [this]
   exact hI'
theorem ri_start {S:RSpec}{D:List Nat}{B:Nat}{a:Act}{w w':World}{l:Nat→Bool}(hb:Below B w w')(hl0:∀ k,l k=true→S.m≤k)(hl1:∀ k,S.m≤k→l k=true)(hp:(S.pres.drop S.m).all List.isEmpty=true)
  (h0:∀ k,S.m≤k→k<S.n→S.fact k (aT a (S.slot k)) w'):RI S D B w a l a w':=by
 refine ⟨Fr.refl _ _,hb,hl1,fun k hk hl j hj=>?_,fun k hk hl _=>h0 k (hl0 k hl) hk⟩
 have hm:=hl0 k hl
 have:S.pre k = []:=by
  unfold RSpec.pre
  rw [List.getD_eq_getElem?_getD]
  cases hg:S.pres[k]? with
  | none=>rfl
  | some x =>
   have hx:x∈S.pres.drop S.m:=List.mem_iff_getElem?.2 ⟨k - S.m,by rw [List.getElem?_drop,Nat.add_sub_cancel' hm,hg]⟩
   have:=List.all_eq_true.1 hp x hx
   simpa using this
 rw [this] at hj
 cases hj
theorem wp_region_ri {id:Nat}{ops:Array Oper}{a:Act}{w:World}(S:RSpec)(D:List Nat)(B:Nat)(G:Act→Prop)(hm:P.follows .mixedOrders=true)(hn:S.m=ops.size)(he:edgesBack ops=true)(hp:(S.pres.drop S.m).all List.isEmpty=true)(hG:G a)
  (hst:∀ k,k<S.n→StB (S.fact k)) (h0:∀ k,S.m≤k→k<S.n→S.fact k (aT a (S.slot k)) w)
  (hs:∀ a0,G a0→StepsRI P Q S D B w a0 0 ops.toList)
  (hend:∀ a' w',Fr D a a'→Below B w w'→(∀ k,k<S.n→S.kill k = []→S.fact k (aT a' (S.slot k)) w')→Q .normal a' w'):(Code.region id ops true).wp P Q a w:=by
 refine wp_region_any hm (wpAny_ri he (hs a hG) (fun l a' w' hI hl=>hend a' w' hI.fr hI.bel (fun k hk h0=>hI.fact k hk (hl k) (by simp [h0]))) ops.size _ a _ (by simp) (by simp) ?_)
 refine ri_start (Below.refl _ _).drew (fun k hl=>?_) (fun k hk=>?_) hp (fun k h1 h2=>hst k h2 _ _ _ (h0 k h1 h2) (Below.refl _ _).drew)
 ·rw [hn]
  by_cases hk:k<ops.size
  ·simp [hk] at hl
  ·omega
 ·rw [hn] at hk
  simp [Array.getElem?_eq_none (show (Array.replicate ops.size false).size≤k by simpa using hk)]
theorem wpList_rp {ops:Array Oper}{S:RSpec}{D:List Nat}{B:Nat}{w0:World}{a0:Act}(he:edgesBack ops=true)(hs:StepsRI P Q S D B w0 a0 0 ops.toList)
  (hend:∀ l a w,RI S D B w0 a0 l a w→(∀ k,l k=true)→Q .normal a w) :
  ∀ (rest:List Oper) (k:Nat) (a:Act) (w:World),ops.toList.drop k=rest→k≤ops.size→RI S D B w0 a0 (fun j=>decide (j<k∨ops.size≤j)) a w→wpList P ops Q rest a w:=by
 intro rest
 induction rest with
 | nil =>
  intro k a w hd hk hI
  have hl:ops.size≤k:=by
   have:=congrArg List.length hd
   simp at this
   omega
  exact wpList_nil (hend _ _ _ hI (fun j=>by simp; omega))
 | cons o rest ih =>
  intro k a w hd hk hI
  have ho:ops.toList[k]? = some o:=by
   have:=congrArg (fun l=>l[0]?) hd
   simpa using this
  have ho':ops[k]? = some o:=by simpa using ho
  have hlt:k<ops.size:=(Array.getElem?_eq_some_iff.1 ho').1
  refine wpList_plain (edgesBack_of he ho').1 (fun K hK=>?_)
  refine hs k o ho _ a w hI (by simp; omega) (fun e hee hb=>by have:=(edgesBack_of he ho').2 e hee hb; simp; omega) K (fun a' w' hI'=>hK a' w' (ih (k+1) a' w' ?_ hlt ?_))
  ·have:=congrArg (List.drop 1) hd
   simpa [List.drop_drop,Nat.add_comm] using this
  ·have:(fun j=>decide (j<k+1∨ops.size≤j))=upd (fun j=>decide (j<k∨ops.size≤j)) (0+k):=by
    funext j
    simp only [upd,Nat.zero_add]
    by_cases e:j=k
    ·subst e
     simp
    ·have:(j<k+1∨ops.size≤j)↔(j<k∨ops.size≤j):=by omega
     simp only [e,this,decide_false,Bool.false_or]
   rw [this]
   exact hI'
theorem wp_region_rp {id:Nat}{os:List Oper}{a:Act}{w:World}(S:RSpec)(D:List Nat)(B:Nat)(G:Act→Prop)(hn:S.m=os.length)(he:edgesBack os.toArray=true)(hp:(S.pres.drop S.m).all List.isEmpty=true)(hG:G a)
  (_:∀ k,k<S.n→StB (S.fact k)) (h0:∀ k,S.m≤k→k<S.n→S.fact k (aT a (S.slot k)) w)
  (hs:∀ a0,G a0→StepsRI P Q S D B w a0 0 os)
  (hend:∀ a' w',Fr D a a'→Below B w w'→(∀ k,k<S.n→S.kill k = []→S.fact k (aT a' (S.slot k)) w')→Q .normal a' w'):(Code.region id os.toArray false).wp P Q a w:=by
 refine wp_region_lit (wpList_rp he (hs a hG) (fun l a' w' hI hl=>hend a' w' hI.fr hI.bel (fun k hk h0=>hI.fact k hk (hl k) (by simp [h0]))) os 0 a w (by simp) (by simp) ?_)
 refine ri_start (Below.refl _ _) (fun k hl=>?_) (fun k hk=>?_) hp h0
 ·rw [hn]
  simpa using hl
 ·rw [hn] at hk
  simpa using hk
theorem opw_value {o:Oper}{a:Act}{w w':World}{K:Act→World→Prop}(v:Value)(hr:(execOp a.eval o).run P w=.ok (.value v) w')(h:K (a.put o.dst v) w'):o.wp P a w K Q:=by
 unfold Oper.wp
 rw [hr]
 exact h
theorem opw_move {o:Oper}{a:Act}{w:World}{K:Act→World→Prop}(x:Nat)(ho:o.op=.move (.tmp x))(h:K (a.put o.dst (aT a x)) w):o.wp P a w K Q :=
 opw_value (aT a x) (by unfold execOp; rw [ho]; rfl) h
theorem opw_assign {o:Oper}{a:Act}{w:World}{K:Act→World→Prop}(x:Nat)(ho:o.op=.assign (.tmp x))(h:K (a.put o.dst (aT a x)) w):o.wp P a w K Q :=
 opw_value (aT a x) (by unfold execOp; rw [ho]; rfl) h
theorem opw_extract {o:Oper}{a:Act}{w:World}{K:Act→World→Prop}(x i:Nat)(ho:o.op=.extract (.tmp x) i)(vs:Array Value)(v:Value)(hx:aT a x=.tuple vs)(hv:vs[i]? = some v)(h:K (a.put o.dst v) w):o.wp P a w K Q:=by
 refine opw_value v ?_ h
 have hx':a.eval (.tmp x)=.tuple vs:=hx
 unfold execOp
 simp [ho,hx',Instr.extract,hv]
theorem opw_call {o:Oper}{a:Act}{w:World}{K:Act→World→Prop}(f:FuncId)(ar:Array Operand)(ats:Array TypeId)(fn:Func)(c:Code)(ho:o.op=.call { callee:=.value (.func f),args:=ar,argTypes:=ats })
  (hf : P.funcs[f]? = some fn) (hname : (fn.name == "runtime.NumGoroutine") = false) (hb : fn.body = some c) (args : Array Value) (hargs : ar.map a.eval = args)
  (h:Calls P f args w fun e w'=>∃ v,e=.returned v∧K (a.put o.dst v) w'):o.wp P a w K Q:=by
 have hn2 : ¬ fn.name = "runtime.NumGoroutine" := by simpa using hname
 have hr:(execOp a.eval o).run P w=.ok (.enter f args) w:=by
  unfold execOp
  rw [ho]
  simp [resolve,hargs,Act.eval,Deferred.ofValue,invoke,callFunc,hf,hn2,hb]
 unfold Oper.wp
 rw [hr,Oper.upon_enter]
 refine h.mono fun e w' hh=>?_
 obtain ⟨v,rfl,hk⟩:=hh
 exact hk
theorem opw_build {o:Oper}{a:Act}{w:World}{K:Act→World→Prop}(t:TypeId)(parts:Array (Nat × Operand))(ho:o.op=.build t parts)(vs:Array (Nat × Value))(hvs:(parts.map fun p=>(p.1,a.eval p.2))=vs)(v:Value)
  (hr:(Instr.build t vs).run P w=.ok v w) (h:K (a.put o.dst v) w):o.wp P a w K Q:=by
 refine opw_value v ?_ h
 have hvs':(parts.map fun x:Nat × Operand=>match x with | (i,x)=>(i,a.eval x))=vs:=hvs
 unfold execOp
 simp only [ho]
 rw [hvs']
 simp [hr]
theorem opw_const {o:Oper}{a:Act}{w:World}{K:Act→World→Prop}(v:Value)(ho:o.op=.assign (.const v))(h:K (a.put o.dst v) w):o.wp P a w K Q :=
 opw_value v (by unfold execOp; rw [ho]; rfl) h
theorem opw_field {o:Oper}{a:Act}{w:World}{K:Act→World→Prop}(s:TypeId)(x f:Nat)(ho:o.op=.fieldAddr s (.tmp x) f)(p:Value)(hx:aT a x=p)(v:Value)(hr:(Instr.fieldAt s p f).run P w=.ok v w)(h:K (a.put o.dst v) w):o.wp P a w K Q:=by
 refine opw_value v ?_ h
 have hx':a.eval (.tmp x)=p:=hx
 unfold execOp
 simp [ho,hx',hr]
theorem opw_load1 {o:Oper}{a:Act}{w:World}{K:Act→World→Prop}(t:TypeId)(x:Nat)(ho:o.op=.load t (.tmp x))(p:Value)(hx:aT a x=p)(v:Value)(hr:(Instr.loadAt t p).run P w=.ok v w)(h:K (a.put o.dst v) w):o.wp P a w K Q:=by
 refine opw_value v ?_ h
 have hx':a.eval (.tmp x)=p:=hx
 unfold execOp
 simp [ho,hx',hr]
theorem evc (a:Act)(v:Value):a.eval (.const v)=v:=rfl
theorem ev (a:Act)(t:Nat):a.eval (.tmp t)=aT a t:=rfl
end
open Go.RowKit
structure Rows2 (w:World)(a:Option Addr)(n:Nat)(bss:List (List Int)):Prop where
 len:bss.length=n
 get:∀ k,k<n→∃ b off,a=some ⟨b,off,none⟩∧b<w.heap.size∧∃ ak nk ck,w.cell? ⟨b,off+k,none⟩=some (.slice ak nk ck)∧Row w ak nk (bss.getD k [])∧(ak=none→ck=0)
def total (bss:List (List Int)):Nat:=(bss.map List.length).sum
def encParts (bss:List (List Int)):List Int:=bss.flatMap fun p=>putN p.length++p
def partsL (bss:List (List Int)):List Int:=putN bss.length++encParts bss
theorem encParts_nil:encParts [] = []:=rfl
theorem encParts_append (a b:List (List Int)):encParts (a++b)=encParts a++encParts b:=by simp [encParts,List.flatMap_append]
theorem encParts_next (bss:List (List Int))(k:Nat)(h:k<bss.length):encParts (bss.take (k+1))=encParts (bss.take k)++(putN (bss.getD k []).length++bss.getD k []):=by
 have e:bss.getD k []=bss[k]:=by simp [h]
 rw [List.take_succ_eq_append_getElem h,encParts_append,e]
 simp [encParts]
theorem total_take (bss:List (List Int))(k:Nat):total (bss.take k)≤total bss:=by
 have:total bss=total (bss.take k)+total (bss.drop k):=by
  unfold total
  rw [← List.sum_append,← List.map_append,List.take_append_drop]
 omega
theorem total_split (bss:List (List Int))(k:Nat)(h:k<bss.length):total (bss.take (k+1))=total (bss.take k)+(bss.getD k []).length:=by
 have e:bss.getD k []=bss[k]:=by simp [h]
 rw [List.take_succ_eq_append_getElem h,e]
 unfold total
 rw [List.map_append,List.sum_append]
 rfl
theorem part_le (bss:List (List Int))(k:Nat)(h:k<bss.length){t:Nat}(ht:total bss≤t):(bss.getD k []).length≤t:=by
 have h1:=total_split bss k h
 have h2:=total_take bss (k+1)
 omega
theorem encParts_len1 (bss:List (List Int))(h:∀ p∈bss,p.length<9223372036854775808):(encParts bss).length≤9 * bss.length+total bss:=by
 induction bss with
 | nil=>simp [encParts,total]
 | cons p r ih =>
  have h1:=ih (fun x hx=>h x (List.mem_cons_of_mem _ hx))
  have h2:(putN p.length).length≤9:=by rw [putN,putL_len]; exact cnt_le _ (h p List.mem_cons_self)
  have e:encParts (p::r)=putN p.length++p++encParts r:=rfl
  have e2:total (p::r)=p.length+total r:=by simp [total]
  rw [e,e2,List.length_append,List.length_append,List.length_cons]; omega
theorem encParts_len (bss:List (List Int))(k n:Nat)(hl:bss.length=n)(ht:total bss≤2097152):(encParts (bss.take k)).length≤9 * n+2097152:=by
 have h1:=encParts_len1 (bss.take k) (fun p hp=>by
  obtain ⟨i,hi,rfl⟩:=List.getElem_of_mem (List.mem_of_mem_take hp)
  have:=part_le bss i hi ht
  simp [hi] at this
  omega)
 have h2:=total_take bss k
 have h3:(bss.take k).length≤n:=by rw [List.length_take]; omega
 omega
theorem specHashAll_any (a:Option Addr)(n cap:Nat)(bss:List (List Int))(w:World)(h:Rows2 w a n bss)(hn:n≤2097152)(ht:total bss≤2097152) :
  Calls Tryz.prog 85 #[.slice a n cap] w fun e w'=>e=.returned (.int .u64 (hashL (partsL bss)))∧Below w.heap.size w w':=by
 obtain ⟨i0,hi,hz0,hz1,hz2⟩:=info_parts Tryz.info5
 have H0:Hid (Rows2 w a n bss):=h
 have HL:Hid (bss.length=n):=h.len
 have HT:Hid (total bss≤2097152):=ht
 clear h ht
 go_enter Tryz.func85,Tryz.ntmps85
 go_wp2_with fail
 refine (specPutNum_any (n:Int) _ (by omega)).mono ?_
 rintro e w1 ⟨a1,c1,rfl,ho1,hb1⟩
 have hp1:putI (n:Int)=putN n:=by rw [putI,if_neg (by omega),Int.toNat_natCast]
 rw [hp1] at ho1 ⊢
 have hpn:(putN n).length≤9:=by rw [putN,putL_len]; exact cnt_le n (by omega)
 obtain ⟨m0,hm0⟩:∃ m0,m0=(putN n).length:=⟨_,rfl⟩
 rw [← hm0] at ho1 hpn ⊢
 clear hp1 hm0
 go_wp2
 go_loopw [3,4] (fun o i wr=>∃ (k m c:Nat) (ao:Option Addr),k≤n∧i=.int .i64 k∧o=.slice ao m c∧Own w.heap.size wr ao m c (putN n++encParts (bss.take k))∧Below w.heap.size w wr) (fun _ i _=>n - (intOf i).toNat)
 case atStart=>exact ⟨0,m0,c1,a1,Nat.zero_le _,rfl,rfl,by rw [List.take_zero,encParts_nil,List.append_nil]; exact ho1,hb1⟩
 case round =>
  obtain ⟨k,m,c,ao,hk,rfl,rfl,hor,hbr⟩:=hrel
  have hws:=hbr.size
  have hmb:m≤9+9 * n+2097152:=by
   have h1:=hor.length
   rw [List.length_append] at h1
   have h2:=encParts_len bss k n HL.out HT.out
   have h3:(putN n).length≤9:=by rw [putN,putL_len]; exact cnt_le n (by omega)
   omega
  by_cases hlt:k<n
  ·obtain ⟨b,off,rfl,hb,ak,nk,ck,hc,hrk,hnk⟩:=H0.out.get k hlt
   have hcr:wr.cell? ⟨b,off+k,none⟩=some (.slice ak nk ck):=(hbr.cell (p:=⟨b,off+k,none⟩) hb).trans hc
   clear hc
   have hkl:k<bss.length:=by have:=HL.out; omega
   have hpk:nk≤2097152:=by rw [← hrk.len]; exact part_le bss k hkl HT.out
   have hnki:(nk:Int)≤2097152:=by omega
   go_wp2_with fail
   refine (specPutNum_any (nk:Int) _ (by omega)).mono ?_
   rintro e w2 ⟨a2,c2,rfl,ho2,hb2⟩
   have hp2:putI (nk:Int)=putN nk:=by rw [putI,if_neg (by omega),Int.toNat_natCast]
   rw [hp2] at ho2 ⊢
   have hpn2:(putN nk).length≤9:=by rw [putN,putL_len]; exact cnt_le nk (by omega)
   obtain ⟨m2,hm2⟩:∃ m2,m2=(putN nk).length:=⟨_,rfl⟩
   rw [← hm2] at ho2 hpn2 ⊢
   have hs2:=hb2.size
   have hor2:=hor.kept hb2
   have hbr2:Below w.heap.size w w2:=hbr.trans (hb2.mono hws)
   have hcr2:w2.cell? ⟨b,off+k,none⟩=some (.slice ak nk ck):=(hb2.cell (p:=⟨b,off+k,none⟩) (by show b<_; omega)).trans hcr
   have hrk2:Row w2 ak nk (bss.getD k []):=hrk.kept hbr2
   clear hp2 hm2 hor hbr hb2 hcr
   go_wp2_with (first | (at_builtin; refine wpList_append_row _ rfl (.tmp 14) (.tmp 20) 26 rfl w.heap.size i0 Tryz.underlying26 hi hz0 hz1 hz2 _ _ _ rfl hor2.row a2 m2 c2 (putN nk) rfl ho2.toRow ho2.nil (by omega) (by omega) ?_; intro v3 w3 hv3 hg3; obtain ⟨a3,c3,rfl,ho3⟩:=own_appended (ys:=putN nk) hv3 hor2.byte ho2.byte; have hbr3:Below w.heap.size w w3:=below_appended hbr2 (by omega) hor2.row hg3; have hcr3:w3.cell? ⟨b,off+k,none⟩=some (.slice ak nk ck):=(hbr3.cell (p:=⟨b,off+k,none⟩) hb).trans ((hbr2.cell (p:=⟨b,off+k,none⟩) hb).symm.trans hcr2); have hrk3:Row w3 ak nk (bss.getD k []):=hrk.kept hbr3) | (at_builtin; refine wpList_append_row _ rfl (.tmp 22) (.tmp 26) 26 rfl w.heap.size i0 Tryz.underlying26 hi hz0 hz1 hz2 _ _ _ rfl ho3.row ak nk ck (bss.getD k []) rfl hrk3 hnk (by omega) (by have:=hbr3.size; omega) ?_; intro v4 w4 hv4 hg4))
   obtain ⟨a4,c4,rfl,ho4⟩:=own_appended (ys:=bss.getD k []) hv4 ho3.byte hrk3.byte
   have hbr4:Below w.heap.size w w4:=below_appended hbr3 (by have:=hbr3.size; omega) ho3.row hg4
   have he:putN n++encParts (bss.take k)++putN nk++bss.getD k []=putN n++encParts (bss.take (k+1)):=by rw [encParts_next bss k hkl,hrk3.len]; simp only [List.append_assoc]
   rw [he] at ho4
   go_roundw
   case rel=>exact ⟨k+1,m+m2+nk,c4,a4,by omega,by go_num,rfl,ho4,hbr4⟩
   case measure=>simp [intOf]; omega
  ·have hkn:k=n:=by omega
   subst hkn
   have he:putN k++encParts (bss.take k)=partsL bss:=by rw [List.take_of_length_le (by have:=HL.out; omega),partsL,HL.out]
   rw [he] at hor
   go_wp2_with fail
   refine (specHash_any ao m c (partsL bss) _ hor.toRow (by omega)).mono ?_
   rintro e w5 ⟨rfl,hw5⟩
   subst hw5
   go_wp2
   go_ret
   exact ⟨rfl,hbr⟩
theorem implHashParts_any (a:Option Addr)(n cap:Nat)(bss:List (List Int))(w:World)(h:Rows2 w a n bss)(hn:n≤2097152)(ht:total bss≤2097152) :
  Calls Tryz.prog 179 #[.slice a n cap] w fun e w'=>e=.returned (.int .u64 (hashL (partsL bss)))∧Below w.heap.size w w':=by
 obtain ⟨i0,hi,hz0,hz1,hz2⟩:=info_parts Tryz.info5
 have H0:Hid (Rows2 w a n bss):=h
 have HL:Hid (bss.length=n):=h.len
 have HT:Hid (total bss≤2097152):=ht
 clear h ht
 go_enter Tryz.func179,Tryz.ntmps179
 go_wp2_with fail
 refine (implPutNum_any (n:Int) _ (by omega)).mono ?_
 rintro e w1 ⟨a1,c1,rfl,ho1,hb1⟩
 have hp1:putI (n:Int)=putN n:=by rw [putI,if_neg (by omega),Int.toNat_natCast]
 rw [hp1] at ho1 ⊢
 have hpn:(putN n).length≤9:=by rw [putN,putL_len]; exact cnt_le n (by omega)
 obtain ⟨m0,hm0⟩:∃ m0,m0=(putN n).length:=⟨_,rfl⟩
 rw [← hm0] at ho1 hpn ⊢
 clear hp1 hm0
 go_wp2
 go_loopw [3,11] (fun o i wr=>∃ (k m c:Nat) (ao:Option Addr),k≤n∧i=.int .i64 k∧o=.slice ao m c∧Own w.heap.size wr ao m c (putN n++encParts (bss.take k))∧Below w.heap.size w wr) (fun _ i _=>n - (intOf i).toNat)
 case atStart=>exact ⟨0,m0,c1,a1,Nat.zero_le _,rfl,rfl,by rw [List.take_zero,encParts_nil,List.append_nil]; exact ho1,hb1⟩
 case round =>
  obtain ⟨k,m,c,ao,hk,rfl,rfl,hor,hbr⟩:=hrel
  have hws:=hbr.size
  have hmb:m≤9+9 * n+2097152:=by
   have h1:=hor.length
   rw [List.length_append] at h1
   have h2:=encParts_len bss k n HL.out HT.out
   have h3:(putN n).length≤9:=by rw [putN,putL_len]; exact cnt_le n (by omega)
   omega
  by_cases hlt:k<n
  ·obtain ⟨b,off,rfl,hb,ak,nk,ck,hc,hrk,hnk⟩:=H0.out.get k hlt
   have hcr:wr.cell? ⟨b,off+k,none⟩=some (.slice ak nk ck):=(hbr.cell (p:=⟨b,off+k,none⟩) hb).trans hc
   clear hc
   have hkl:k<bss.length:=by have:=HL.out; omega
   have hpk:nk≤2097152:=by rw [← hrk.len]; exact part_le bss k hkl HT.out
   have hnki:(nk:Int)≤2097152:=by omega
   go_wp2_with fail
   refine (implPutNum_any (nk:Int) _ (by omega)).mono ?_
   rintro e w2 ⟨a2,c2,rfl,ho2,hb2⟩
   have hp2:putI (nk:Int)=putN nk:=by rw [putI,if_neg (by omega),Int.toNat_natCast]
   rw [hp2] at ho2 ⊢
   have hpn2:(putN nk).length≤9:=by rw [putN,putL_len]; exact cnt_le nk (by omega)
   obtain ⟨m2,hm2⟩:∃ m2,m2=(putN nk).length:=⟨_,rfl⟩
   rw [← hm2] at ho2 hpn2 ⊢
   have hs2:=hb2.size
   have hor2:=hor.kept hb2
   have hbr2:Below w.heap.size w w2:=hbr.trans (hb2.mono hws)
   have hcr2:w2.cell? ⟨b,off+k,none⟩=some (.slice ak nk ck):=(hb2.cell (p:=⟨b,off+k,none⟩) (by show b<_; omega)).trans hcr
   have hrk2:Row w2 ak nk (bss.getD k []):=hrk.kept hbr2
   clear hp2 hm2 hor hbr hb2 hcr
   go_wp2_with (first | (at_builtin; refine wpList_append_row _ rfl (.tmp 15) (.tmp 18) 26 rfl w.heap.size i0 Tryz.underlying26 hi hz0 hz1 hz2 _ _ _ rfl hor2.row a2 m2 c2 (putN nk) rfl ho2.toRow ho2.nil (by omega) (by omega) ?_; intro v3 w3 hv3 hg3; obtain ⟨a3,c3,rfl,ho3⟩:=own_appended (ys:=putN nk) hv3 hor2.byte ho2.byte; have hbr3:Below w.heap.size w w3:=below_appended hbr2 (by omega) hor2.row hg3; have hcr3:w3.cell? ⟨b,off+k,none⟩=some (.slice ak nk ck):=(hbr3.cell (p:=⟨b,off+k,none⟩) hb).trans ((hbr2.cell (p:=⟨b,off+k,none⟩) hb).symm.trans hcr2); have hrk3:Row w3 ak nk (bss.getD k []):=hrk.kept hbr3) | (at_builtin; refine wpList_append_row _ rfl (.tmp 20) (.tmp 21) 26 rfl w.heap.size i0 Tryz.underlying26 hi hz0 hz1 hz2 _ _ _ rfl ho3.row ak nk ck (bss.getD k []) rfl hrk3 hnk (by omega) (by have:=hbr3.size; omega) ?_; intro v4 w4 hv4 hg4))
   obtain ⟨a4,c4,rfl,ho4⟩:=own_appended (ys:=bss.getD k []) hv4 ho3.byte hrk3.byte
   have hbr4:Below w.heap.size w w4:=below_appended hbr3 (by have:=hbr3.size; omega) ho3.row hg4
   have he:putN n++encParts (bss.take k)++putN nk++bss.getD k []=putN n++encParts (bss.take (k+1)):=by rw [encParts_next bss k hkl,hrk3.len]; simp only [List.append_assoc]
   rw [he] at ho4
   go_roundw
   case rel=>exact ⟨k+1,m+m2+nk,c4,a4,by omega,by go_num,rfl,ho4,hbr4⟩
   case measure=>simp [intOf]; omega
  ·have hkn:k=n:=by omega
   subst hkn
   have he:putN k++encParts (bss.take k)=partsL bss:=by rw [List.take_of_length_le (by have:=HL.out; omega),partsL,HL.out]
   rw [he] at hor
   go_wp2_with fail
   refine (implHash_any ao m c (partsL bss) _ hor.toRow (by omega)).mono ?_
   rintro e w5 ⟨rfl,hb5⟩
   go_wp2
   go_ret
   exact ⟨rfl,hbr.trans (hb5.mono hws)⟩
theorem implHashAll_any (a:Option Addr)(n cap:Nat)(bss:List (List Int))(w:World)(h:Rows2 w a n bss)(hn:n≤2097152)(ht:total bss≤2097152) :
  Calls Tryz.prog 205 #[.slice a n cap] w fun e w'=>e=.returned (.int .u64 (hashL (partsL bss)))∧Below w.heap.size w w':=by
 have H0:Hid (Rows2 w a n bss):=h
 clear h
 go_enter Tryz.func205,Tryz.ntmps205
 go_wp2_with fail
 refine (implHashParts_any a n cap bss _ H0.out hn ht).mono ?_
 rintro e w1 ⟨rfl,hb1⟩
 go_wp2
 go_ret
 exact ⟨rfl,hb1⟩
open Go.RowKit
def powOk (b e m:Int):Prop:=(1≤m∧m≤2147483648)∧(0≤b∧b≤m - 1)∧0≤e
instance (b e m:Int):Decidable (powOk b e m):=by unfold powOk; infer_instance
def powV (b e m:Int):Int × Bool:=if powOk b e m then (pw b e.toNat m,true) else (0,false)
def pair (t:Int × Bool):Value:=.tuple #[.int .i64 t.1,.bool t.2]
theorem implPowMod_any (b e m:Int)(w:World)(he':e≤9223372036854775807) :
  Calls Tryz.prog 185 #[.int .i64 b,.int .i64 e,.int .i64 m] w fun r w'=>r=.returned (pair (powV b e m))∧w'=w:=by
 by_cases h1:1≤m∧m≤2147483648
 ·by_cases h2:0≤b∧b≤m - 1
  ·by_cases h3:0≤e
   ·have HR:Hid (powV b e m=(pw b e.toNat m,true)):=by show _=_; unfold powV; rw [if_pos ⟨h1,h2,h3⟩]
    have HV:Hid ((1 % m) * b ^ e.toNat % m=pw b e.toNat m):=by show _=_; unfold pw; rw [Int.mul_emod,Int.emod_emod_of_dvd _ (Int.dvd_refl m),← Int.mul_emod,Int.one_mul]
    obtain ⟨hm,hm'⟩:=h1
    obtain ⟨hb,hb'⟩:=h2
    have hb1:b<m:=by omega
    have hm1:=mod_bd 1 hm
    go_enter Tryz.func185,Tryz.ntmps185
    go_wp2_with fail
    refine (inBounds_t m 1 2147483648 _ ⟨hm,hm'⟩).mono ?_
    rintro r w1 ⟨rfl,rfl⟩
    go_wp2_with fail
    refine (inBounds_t b 0 (m - 1) _ ⟨hb,hb'⟩).mono ?_
    rintro r w1 ⟨rfl,rfl⟩
    go_wp2
    go_loopw [0,1,8] (fun vb ve vo wr=>∃ (b' e' out:Int),vb=.int .i64 b'∧ve=.int .i64 e'∧vo=.int .i64 out∧0≤b'∧b'<m∧0≤e'∧e'≤9223372036854775807∧0≤out∧out<m∧Hid (out * b' ^ e'.toNat % m=pw b e.toNat m)∧w1=wr) (fun _ ve _ _=>(intOf ve).toNat)
    case atStart=>exact ⟨b,e,1 % m,rfl,rfl,rfl,hb,hb1,h3,he',hm1.1,hm1.2,HV,rfl⟩
    case round =>
     obtain ⟨b',e',out,rfl,rfl,rfl,hb0,hb1,he0,he1,ho0,ho1,HI,rfl⟩:=hrel
     by_cases hp:0<e'
     ·have hbb:=mul_bd hb0 hb1 hb0 hb1 hm'
      have hob:=mul_bd ho0 ho1 hb0 hb1 hm'
      have hbm:=mod_bd (b' * b') hm
      have hom:=mod_bd (out * b') hm
      have ha:=and1 e' he0 he1
      by_cases hodd:e' % 2=1
      ·have HN:Hid ((out * b' % m) * (b' * b' % m) ^ (e' / 2).toNat % m=pw b e.toNat m):=by
        show _=_
        rw [← HI.out,show (e' / 2).toNat=e'.toNat / 2 by omega]
        exact pw_odd out b' m e'.toNat (by omega)
       have z:(e' % 2 == 1)=true:=beq_iff_eq.2 hodd
       clear hodd HI
       go_wp2
       go_roundw
       case rel=>exact ⟨_,_,_,rfl,rfl,rfl,hbm.1,hbm.2,by omega,by omega,hom.1,hom.2,HN,by trivial⟩
       case measure=>simp [intOf]; omega
      ·have HN:Hid (out * (b' * b' % m) ^ (e' / 2).toNat % m=pw b e.toNat m):=by
        show _=_
        rw [← HI.out,show (e' / 2).toNat=e'.toNat / 2 by omega]
        exact pw_even out b' m e'.toNat (by omega)
       have z:(e' % 2 == 1)=false:=beq_false_of_ne hodd
       clear hodd HI
       go_wp2
       go_roundw
       case rel=>exact ⟨_,_,_,rfl,rfl,rfl,hbm.1,hbm.2,by omega,by omega,ho0,ho1,HN,by trivial⟩
       case measure=>simp [intOf]; omega
     ·obtain rfl:e'=0:=by omega
      have HE:Hid (out=pw b e.toNat m):=by
       show _=_
       rw [← HI.out,show Int.toNat 0=0 from rfl,Int.pow_zero,Int.mul_one,Int.emod_eq_of_lt ho0 ho1]
      clear HI
      go_wp2
      go_ret2
      exact ⟨by rw [HR.out,← HE.out]; rfl,rfl⟩
   ·have HV:Hid (powV b e m=(0,false)):=by show _=_; unfold powV; rw [if_neg (fun h=>h3 h.2.2)]
    go_enter Tryz.func185,Tryz.ntmps185
    go_wp2_with fail
    refine (inBounds_t m 1 2147483648 _ h1).mono ?_
    rintro r w1 ⟨rfl,rfl⟩
    go_wp2_with fail
    refine (inBounds_t b 0 (m - 1) _ h2).mono ?_
    rintro r w1 ⟨rfl,rfl⟩
    go_wp2
    go_ret2
    exact ⟨by rw [HV.out]; rfl,rfl⟩
  ·have HV:Hid (powV b e m=(0,false)):=by show _=_; unfold powV; rw [if_neg (fun h=>h2 h.2.1)]
   go_enter Tryz.func185,Tryz.ntmps185
   go_wp2_with fail
   refine (inBounds_t m 1 2147483648 _ h1).mono ?_
   rintro r w1 ⟨rfl,rfl⟩
   go_wp2_with fail
   refine (inBounds_f b 0 (m - 1) _ h2).mono ?_
   rintro r w1 ⟨rfl,rfl⟩
   go_wp2
   go_ret2
   exact ⟨by rw [HV.out]; rfl,rfl⟩
 ·have HV:Hid (powV b e m=(0,false)):=by show _=_; unfold powV; rw [if_neg (fun h=>h1 h.1)]
  go_enter Tryz.func185,Tryz.ntmps185
  go_wp2_with fail
  refine (inBounds_f m 1 2147483648 _ h1).mono ?_
  rintro r w1 ⟨rfl,rfl⟩
  go_wp2
  go_ret2
  exact ⟨by rw [HV.out]; rfl,rfl⟩
open Go.RowKit
def secP (x:Int):Prop:=1≤x∧x≤500000002
def expP (x:Int):Prop:=0≤x∧x≤500000002
instance (x:Int):Decidable (secP x):=by unfold secP; infer_instance
instance (x:Int):Decidable (expP x):=by unfold expP; infer_instance
def gp (b e:Int):Int:=pw b e.toNat 1000000007
theorem gp_bd (b e:Int):0≤gp b e∧gp b e<1000000007:=mod_bd _ (by decide)
theorem isSecret_any (x:Int)(w:World):Calls Tryz.prog 177 #[.int .i64 x] w fun r w'=>r=.returned (.bool (decide (secP x)))∧w'=w:=by
 by_cases h:secP x
 ·rw [decide_eq_true h]
  go_enter Tryz.func177,Tryz.ntmps177
  go_wp2_with fail
  refine (inBounds_t x 1 500000002 _ h).mono ?_
  rintro r w1 ⟨rfl,rfl⟩
  go_wp2
  go_ret
  exact ⟨rfl,rfl⟩
 ·rw [decide_eq_false h]
  go_enter Tryz.func177,Tryz.ntmps177
  go_wp2_with fail
  refine (inBounds_f x 1 500000002 _ h).mono ?_
  rintro r w1 ⟨rfl,rfl⟩
  go_wp2
  go_ret
  exact ⟨rfl,rfl⟩
theorem l7Secret_any (x:Int)(w:World):Calls Tryz.prog 84 #[.int .i64 x] w fun r w'=>r=.returned (.bool (decide (secP x)))∧w'=w:=by
 by_cases h:secP x
 ·rw [decide_eq_true h]
  go_enter Tryz.func84,Tryz.ntmps84
  go_wp2_with fail
  refine (l1In_t x 1 500000002 _ h).mono ?_
  rintro r w1 ⟨rfl,rfl⟩
  go_wp2
  go_ret
  exact ⟨rfl,rfl⟩
 ·rw [decide_eq_false h]
  go_enter Tryz.func84,Tryz.ntmps84
  go_wp2_with fail
  refine (l1In_f x 1 500000002 _ h).mono ?_
  rintro r w1 ⟨rfl,rfl⟩
  go_wp2
  go_ret
  exact ⟨rfl,rfl⟩
theorem power_any (b e:Int)(w:World)(hb:0≤b)(hb':b≤1000000006)(he:0≤e)(he':e≤9223372036854775807) :
  Calls Tryz.prog 181 #[.int .i64 b,.int .i64 e] w fun r w'=>r=.returned (.int .i64 (gp b e))∧w'=w:=by
 have HV:Hid (powV b e 1000000007=(gp b e,true)):=by show _=_; unfold powV; rw [if_pos ⟨by decide,⟨hb,by omega⟩,he⟩]; rfl
 go_enter Tryz.func181,Tryz.ntmps181
 go_wp2_with fail
 refine (implPowMod_any b e 1000000007 _ he').mono ?_
 rintro r w1 ⟨rfl,rfl⟩
 rw [HV.out,pair]
 go_wp2
 go_ret
 exact ⟨rfl,rfl⟩
theorem l7PowP_any (b e:Int)(w:World)(hb:0≤b)(hb':b≤1000000006)(he:0≤e)(he':e≤9223372036854775807) :
  Calls Tryz.prog 87 #[.int .i64 b,.int .i64 e,.int .i64 1000000007] w fun r w'=>r=.returned (.int .i64 (gp b e))∧w'=w :=
 l7Pow_any b e 1000000007 w (by decide) (by decide) hb (by omega) he he'
def keyOf (x:Int):Int:=if secP x then gp 4 x else 0
theorem implKeyOf_any (x:Int)(w:World):Calls Tryz.prog 182 #[.int .i64 x] w fun r w'=>r=.returned (.int .i64 (keyOf x))∧w'=w:=by
 by_cases h:secP x
 ·have HV:Hid (keyOf x=gp 4 x):=by show _=_; unfold keyOf; rw [if_pos h]
  go_enter Tryz.func182,Tryz.ntmps182
  go_wp2_with fail
  refine (isSecret_any x _).mono ?_
  rintro r w1 ⟨rfl,rfl⟩
  rw [decide_eq_true h]
  go_wp2_with fail
  refine (power_any 4 x _ (by decide) (by decide) (by have:=h.1; omega) (by have:=h.2; omega)).mono ?_
  rintro r w1 ⟨rfl,rfl⟩
  go_wp2
  go_ret
  exact ⟨by rw [HV.out]; rfl,rfl⟩
 ·have HV:Hid (keyOf x=0):=by show _=_; unfold keyOf; rw [if_neg h]
  go_enter Tryz.func182,Tryz.ntmps182
  go_wp2_with fail
  refine (isSecret_any x _).mono ?_
  rintro r w1 ⟨rfl,rfl⟩
  rw [decide_eq_false h]
  go_wp2
  go_ret
  exact ⟨by rw [HV.out]; rfl,rfl⟩
theorem specKeyOf_any (x:Int)(w:World):Calls Tryz.prog 88 #[.int .i64 x] w fun r w'=>r=.returned (.int .i64 (keyOf x))∧w'=w:=by
 by_cases h:secP x
 ·have HV:Hid (keyOf x=gp 4 x):=by show _=_; unfold keyOf; rw [if_pos h]
  go_enter Tryz.func88,Tryz.ntmps88
  go_wp2_with fail
  refine (l7Secret_any x _).mono ?_
  rintro r w1 ⟨rfl,rfl⟩
  rw [decide_eq_true h]
  go_wp2_with fail
  refine (l7PowP_any 4 x _ (by decide) (by decide) (by have:=h.1; omega) (by have:=h.2; omega)).mono ?_
  rintro r w1 ⟨rfl,rfl⟩
  go_wp2
  go_ret
  exact ⟨by rw [HV.out]; rfl,rfl⟩
 ·have HV:Hid (keyOf x=0):=by show _=_; unfold keyOf; rw [if_neg h]
  go_enter Tryz.func88,Tryz.ntmps88
  go_wp2_with fail
  refine (l7Secret_any x _).mono ?_
  rintro r w1 ⟨rfl,rfl⟩
  rw [decide_eq_false h]
  go_wp2
  go_ret
  exact ⟨by rw [HV.out]; rfl,rfl⟩
theorem prod_bd {a b m:Int}(ha:0≤a)(ha':a<m)(hb:0≤b)(hb':b<m)(hm:m≤1000000007):0≤a * b∧a * b≤1000000014000000049:=by
 refine ⟨Int.mul_nonneg ha hb,?_⟩
 have h1:a * b≤1000000007 * b:=Int.mul_le_mul_of_nonneg_right (by omega) hb
 omega
theorem answerTo_any (k e x:Int)(w:World)(hk:expP k)(he:expP e)(hx:expP x) :
  Calls Tryz.prog 183 #[.int .i64 k,.int .i64 e,.int .i64 x] w fun r w'=>r=.returned (.int .i64 ((k+e * x) % 500000003))∧w'=w:=by
 obtain ⟨hk0,hk1⟩:=hk
 obtain ⟨he0,he1⟩:=he
 obtain ⟨hx0,hx1⟩:=hx
 obtain ⟨hp0,hp1⟩:=prod_bd he0 (show e<1000000007 by omega) hx0 (show x<1000000007 by omega) (Int.le_refl _)
 go_enter Tryz.func183,Tryz.ntmps183
 go_wp2
 go_ret
 exact ⟨rfl,rfl⟩
open Go.RowKit
def cellsOf (ps:List (Option Addr × Nat × Nat × List Int)):Array Value:=(ps.map fun p=>Value.slice p.1 p.2.1 p.2.2.1).toArray
theorem rows2_lit (w:World)(ps:List (Option Addr × Nat × Nat × List Int))(T:Nat)(h:∀ p∈ps,Row w p.1 p.2.1 p.2.2.2∧(p.1=none→p.2.2.1=0)) :
  Rows2 (w.alloc (.cells (cellsOf ps) T)) (some ⟨w.heap.size,0,none⟩) ps.length (ps.map fun p=>p.2.2.2):=by
 have hb:Below w.heap.size w (w.alloc (.cells (cellsOf ps) T)):=(Below.refl _ _).alloc (Nat.le_refl _) _
 refine ⟨by simp,fun k hk=>⟨w.heap.size,0,rfl,by simp,ps[k].1,ps[k].2.1,ps[k].2.2.1,?_,?_,(h ps[k] (List.getElem_mem hk)).2⟩⟩
 ·rw [Nat.zero_add,cell_of_row _ w.heap.size k _ T _ (heap_alloc_new w _)]
  simp [cellsOf,hk]
 ·have e:(ps.map fun p=>p.2.2.2).getD k []=ps[k].2.2.2:=by simp [hk]
  rw [e]
  exact (h ps[k] (List.getElem_mem hk)).1.kept hb
def wordC (bs:List Int):Array Value:=(bs.map (Value.int .u8)).toArray
theorem row_word (w:World)(bs:List Int)(fr:Nat × Nat)(h:∀ k,0≤bs.getD k 0∧bs.getD k 0≤255):Row (w.alloc (.cells (wordC bs) 5 fr)) (some ⟨w.heap.size,0,none⟩) bs.length bs:=by
 refine ⟨rfl,fun k hk=>⟨w.heap.size,0,rfl,by simp,?_⟩,h⟩
 rw [Nat.zero_add,cell_of_row _ w.heap.size k _ 5 _ (heap_alloc_new w _)]
 simp [wordC,hk]
theorem bytes_of_all {bs:List Int}(h:∀ x∈bs,0≤x∧x≤255):∀ k,0≤bs.getD k 0∧bs.getD k 0≤255:=by
 intro k
 rw [List.getD_eq_getElem?_getD]
 by_cases hk:k<bs.length
 ·rw [List.getElem?_eq_getElem hk]; exact h _ (List.getElem_mem hk)
 ·rw [List.getElem?_eq_none (by omega)]; simp
theorem hashL_bd (bs:List Int):0≤hashL bs∧hashL bs≤18446744073709551615 :=
 ⟨(bits_within .xor .u64 _ _).1,(bits_within .xor .u64 _ _).2⟩
def chW:List Int:=[99,104,97,108,108,101,110,103,101]
theorem chW_byte:∀ k,0≤chW.getD k 0∧chW.getD k 0≤255:=bytes_of_all (by decide)
def chalN (r y:Int)(ms:List Int):Int:=hashL (partsL [chW,putI r,putI y,ms]) % 500000003
theorem chal_total (r y:Int)(ms:List Int)(hr:r≤9223372036854775807)(hy:y≤9223372036854775807)(hn:ms.length≤1048576):total [chW,putI r,putI y,ms]≤2097152:=by
 have h1:=putI_len r hr
 have h2:=putI_len y hy
 simp [total,chW]
 omega
theorem implChallenge_any (r y:Int)(a:Option Addr)(n c:Nat)(ms:List Int)(w:World)(h:Row w a n ms)(hn:n≤1048576)(hc:a=none→c=0)(hr:r≤9223372036854775807)(hy:y≤9223372036854775807) :
  Calls Tryz.prog 180 #[.int .i64 r,.int .i64 y,.slice a n c] w fun e w'=>e=.returned (.int .i64 (chalN r y ms))∧Below w.heap.size w w':=by
 have H0:Hid (Row w a n ms):=h
 have HT:Hid (total [chW,putI r,putI y,ms]≤2097152):=chal_total r y ms hr hy (by rw [h.len]; exact hn)
 clear h
 have hcv:=Lib.run_convert_bytes_const (P:=Tryz.prog) w 26 5 #[.int .u8 99,.int .u8 104,.int .u8 97,.int .u8 108,.int .u8 108,.int .u8 101,.int .u8 110,.int .u8 103,.int .u8 101] 9 9 Tryz.underlying26 Tryz.underlying5
 have hrw:Row (w.alloc (.cells #[.int .u8 99,.int .u8 104,.int .u8 97,.int .u8 108,.int .u8 108,.int .u8 101,.int .u8 110,.int .u8 103,.int .u8 101] 5 (9,10))) (some ⟨w.heap.size,0,none⟩) 9 chW:=row_word w chW (9,10) chW_byte
 have hb0:Below w.heap.size w (w.alloc (.cells #[.int .u8 99,.int .u8 104,.int .u8 97,.int .u8 108,.int .u8 108,.int .u8 101,.int .u8 110,.int .u8 103,.int .u8 101] 5 (9,10))):=(Below.refl _ _).alloc (Nat.le_refl _) _
 go_enter Tryz.func180,Tryz.ntmps180
 go_wp2_with fail
 clear hcv
 obtain ⟨w0,hw0⟩:∃ w0,w0=w.alloc (.cells #[.int .u8 99,.int .u8 104,.int .u8 97,.int .u8 108,.int .u8 108,.int .u8 101,.int .u8 110,.int .u8 103,.int .u8 101] 5 (9,10)):=⟨_,rfl⟩
 rw [← hw0] at hrw hb0 ⊢
 clear hw0
 refine (implPutNum_any r _ hr).mono ?_
 rintro e w1 ⟨a1,c1,rfl,ho1,hb1⟩
 obtain ⟨n1,hn1⟩:∃ n1,n1=(putI r).length:=⟨_,rfl⟩
 rw [← hn1] at ho1 ⊢
 clear hn1
 go_wp2_with fail
 refine (implPutNum_any y _ hy).mono ?_
 rintro e w2 ⟨a2,c2,rfl,ho2,hb2⟩
 obtain ⟨n2,hn2⟩:∃ n2,n2=(putI y).length:=⟨_,rfl⟩
 rw [← hn2] at ho2 ⊢
 clear hn2
 have hs1:=hb1.size
 have B2:Below w0.heap.size w0 w2:=hb1.trans (hb2.mono hs1)
 have B2':Below w.heap.size w w2:=hb0.trans (B2.mono hb0.size)
 have HRS:Hid (Rows2 (w2.alloc (.cells #[.slice (some ⟨w.heap.size,0,none⟩) 9 9,.slice a1 n1 c1,.slice a2 n2 c2,.slice a n c] 26)) (some ⟨w2.heap.size,0,none⟩) 4 [chW,putI r,putI y,ms]):=by
  refine rows2_lit w2 [(some ⟨w.heap.size,0,none⟩,9,9,chW),(a1,n1,c1,putI r),(a2,n2,c2,putI y),(a,n,c,ms)] 26 ?_
  intro p hp
  simp only [List.mem_cons,List.not_mem_nil,or_false] at hp
  rcases hp with rfl | rfl | rfl | rfl
  ·exact ⟨hrw.kept B2,fun h=>by cases h⟩
  ·exact ⟨(ho1.kept hb2).toRow,ho1.nil⟩
  ·exact ⟨ho2.toRow,ho2.nil⟩
  ·exact ⟨H0.out.kept B2',hc⟩
 have B3:Below w.heap.size w (w2.alloc (.cells #[.slice (some ⟨w.heap.size,0,none⟩) 9 9,.slice a1 n1 c1,.slice a2 n2 c2,.slice a n c] 26)):=B2'.alloc B2'.size _
 go_wp2_with fail
 refine (implHashParts_any _ 4 4 [chW,putI r,putI y,ms] _ HRS.out (by decide) HT.out).mono ?_
 rintro e w3 ⟨rfl,hb3⟩
 have HV:Hid (hashL (partsL [chW,putI r,putI y,ms]) % 500000003=chalN r y ms):=rfl
 obtain ⟨hh,hhe⟩:∃ hh,hh=hashL (partsL [chW,putI r,putI y,ms]):=⟨_,rfl⟩
 have hhb:=hashL_bd (partsL [chW,putI r,putI y,ms])
 rw [← hhe] at HV hhb ⊢
 obtain ⟨hh0,hh1⟩:=hhb
 clear hhe
 go_wp2
 go_ret
 exact ⟨by rw [← HV.out]; rfl,B3.trans (hb3.mono B3.size)⟩
theorem specChallenge_any (r y:Int)(a:Option Addr)(n c:Nat)(ms:List Int)(w:World)(h:Row w a n ms)(hn:n≤1048576)(hc:a=none→c=0)(hr:r≤9223372036854775807)(hy:y≤9223372036854775807) :
  Calls Tryz.prog 86 #[.int .i64 r,.int .i64 y,.slice a n c] w fun e w'=>e=.returned (.int .i64 (chalN r y ms))∧Below w.heap.size w w':=by
 have H0:Hid (Row w a n ms):=h
 have HT:Hid (total [chW,putI r,putI y,ms]≤2097152):=chal_total r y ms hr hy (by rw [h.len]; exact hn)
 clear h
 have hcv:=Lib.run_convert_bytes_const (P:=Tryz.prog) w 26 5 #[.int .u8 99,.int .u8 104,.int .u8 97,.int .u8 108,.int .u8 108,.int .u8 101,.int .u8 110,.int .u8 103,.int .u8 101] 9 9 Tryz.underlying26 Tryz.underlying5
 have hrw:Row (w.alloc (.cells #[.int .u8 99,.int .u8 104,.int .u8 97,.int .u8 108,.int .u8 108,.int .u8 101,.int .u8 110,.int .u8 103,.int .u8 101] 5 (9,10))) (some ⟨w.heap.size,0,none⟩) 9 chW:=row_word w chW (9,10) chW_byte
 have hb0:Below w.heap.size w (w.alloc (.cells #[.int .u8 99,.int .u8 104,.int .u8 97,.int .u8 108,.int .u8 108,.int .u8 101,.int .u8 110,.int .u8 103,.int .u8 101] 5 (9,10))):=(Below.refl _ _).alloc (Nat.le_refl _) _
 go_enter Tryz.func86,Tryz.ntmps86
 go_wp2_with fail
 clear hcv
 obtain ⟨w0,hw0⟩:∃ w0,w0=w.alloc (.cells #[.int .u8 99,.int .u8 104,.int .u8 97,.int .u8 108,.int .u8 108,.int .u8 101,.int .u8 110,.int .u8 103,.int .u8 101] 5 (9,10)):=⟨_,rfl⟩
 rw [← hw0] at hrw hb0 ⊢
 clear hw0
 refine (specPutNum_any r _ hr).mono ?_
 rintro e w1 ⟨a1,c1,rfl,ho1,hb1⟩
 obtain ⟨n1,hn1⟩:∃ n1,n1=(putI r).length:=⟨_,rfl⟩
 rw [← hn1] at ho1 ⊢
 clear hn1
 go_wp2_with fail
 refine (specPutNum_any y _ hy).mono ?_
 rintro e w2 ⟨a2,c2,rfl,ho2,hb2⟩
 obtain ⟨n2,hn2⟩:∃ n2,n2=(putI y).length:=⟨_,rfl⟩
 rw [← hn2] at ho2 ⊢
 clear hn2
 have hs1:=hb1.size
 have B2:Below w0.heap.size w0 w2:=hb1.trans (hb2.mono hs1)
 have B2':Below w.heap.size w w2:=hb0.trans (B2.mono hb0.size)
 have HRS:Hid (Rows2 (w2.alloc (.cells #[.slice (some ⟨w.heap.size,0,none⟩) 9 9,.slice a1 n1 c1,.slice a2 n2 c2,.slice a n c] 26)) (some ⟨w2.heap.size,0,none⟩) 4 [chW,putI r,putI y,ms]):=by
  refine rows2_lit w2 [(some ⟨w.heap.size,0,none⟩,9,9,chW),(a1,n1,c1,putI r),(a2,n2,c2,putI y),(a,n,c,ms)] 26 ?_
  intro p hp
  simp only [List.mem_cons,List.not_mem_nil,or_false] at hp
  rcases hp with rfl | rfl | rfl | rfl
  ·exact ⟨hrw.kept B2,fun h=>by cases h⟩
  ·exact ⟨(ho1.kept hb2).toRow,ho1.nil⟩
  ·exact ⟨ho2.toRow,ho2.nil⟩
  ·exact ⟨H0.out.kept B2',hc⟩
 have B3:Below w.heap.size w (w2.alloc (.cells #[.slice (some ⟨w.heap.size,0,none⟩) 9 9,.slice a1 n1 c1,.slice a2 n2 c2,.slice a n c] 26)):=B2'.alloc B2'.size _
 go_wp2_with fail
 refine (specHashAll_any _ 4 4 [chW,putI r,putI y,ms] _ HRS.out (by decide) HT.out).mono ?_
 rintro e w3 ⟨rfl,hb3⟩
 have HV:Hid (hashL (partsL [chW,putI r,putI y,ms]) % 500000003=chalN r y ms):=rfl
 obtain ⟨hh,hhe⟩:∃ hh,hh=hashL (partsL [chW,putI r,putI y,ms]):=⟨_,rfl⟩
 have hhb:=hashL_bd (partsL [chW,putI r,putI y,ms])
 rw [← hhe] at HV hhb ⊢
 obtain ⟨hh0,hh1⟩:=hhb
 clear hhe
 go_wp2
 go_ret
 exact ⟨by rw [← HV.out]; rfl,B3.trans (hb3.mono B3.size)⟩
open Go.RowKit
theorem take_snoc (l:List Int)(k:Nat)(h:k<l.length):l.take (k+1)=l.take k++[l.getD k 0]:=by
 have e:l.getD k 0=l[k]:=by simp [h]
 rw [List.take_succ_eq_append_getElem h,e]
def eightI (v:Int):List Int:=eight v.toNat
theorem eightI_len (v:Int):(eightI v).length=8:=rfl
theorem eightI_byte (v:Int):∀ k,0≤(eightI v).getD k 0∧(eightI v).getD k 0≤255:=eight_byte _
theorem digestBytes_any (v:Int)(w:World)(h0:0≤v)(h1:v≤18446744073709551615) :
  Calls Tryz.prog 196 #[.int .u64 v] w fun e w'=>∃ g,e=.returned (.slice (some ⟨g,0,none⟩) 8 8)∧Row w' (some ⟨g,0,none⟩) 8 (eightI v)∧(∃ cs fr,w'.heap[g]? = some (.cells cs 171 fr))∧Below w.heap.size w w':=by
 obtain ⟨n,rfl⟩:=Int.eq_ofNat_of_zero_le h0
 go_enter Tryz.func196,Tryz.ntmps196
 go_wp2_with fail
 refine (eight_any n _ h1).mono ?_
 rintro e w1 ⟨x0,x1,x2,x3,x4,x5,x6,x7,rfl,hx,hb1⟩
 have HX:Hid (_=_):=hx
 have HB1:Hid (_):=hb1
 clear hx hb1
 go_wp2
 go_ret
 refine ⟨w1.heap.size,rfl,⟨eightI_len _,fun k hk=>⟨w1.heap.size,0,rfl,by simp,?_⟩,eightI_byte _⟩,⟨_,_,heap_alloc_new w1 _⟩,HB1.out.alloc HB1.out.size _⟩
 rw [Nat.zero_add,cell_of_row _ w1.heap.size k _ 171 _ (heap_alloc_new w1 _)]
 have e:eightI (n:Int) = [x0,x1,x2,x3,x4,x5,x6,x7]:=by rw [HX.out]; rfl
 rw [e]
 match k,hk with
 | 0,_ | 1,_ | 2,_ | 3,_ | 4,_ | 5,_ | 6,_ | 7,_=>rfl
theorem eight_at (n q:Nat)(h:q≤7):(n:Int) / 2 ^ (8 * q) % 256=(eightI (n:Int)).getD (7 - q) 0:=by
 have e:eightI (n:Int)=eight n:=rfl
 rw [e]
 match q,h with
 | 0,_=>simp [eight]
 | 1,_=>simp [eight]
 | 2,_=>simp [eight]
 | 3,_=>simp [eight]
 | 4,_=>simp [eight]
 | 5,_=>simp [eight]
 | 6,_=>simp [eight]
 | 7,_=>simp [eight]
theorem l1Eight_any (v:Int)(w:World)(h0:0≤v)(h1:v≤18446744073709551615) :
  Calls Tryz.prog 94 #[.int .u64 v] w fun e w'=>∃ a cap,e=.returned (.slice a 8 cap)∧Own w.heap.size w' a 8 cap (eightI v)∧Below w.heap.size w w':=by
 obtain ⟨i0,hi,hz0,hz1,hz2⟩:=info_parts Tryz.info5
 obtain ⟨n,rfl⟩:=Int.eq_ofNat_of_zero_le h0
 have hoe:=own_empty w
 have hbe:Below w.heap.size w (w.alloc (.cells #[] 5)):=(Below.refl _ _).alloc (Nat.le_refl _) _
 go_enter Tryz.func94,Tryz.ntmps94
 go_wp2
 go_loopw [3,4] (fun o i wr=>∃ (a:Option Addr) (q len cap:Nat),q≤8∧len=8 - q∧i=.int .i64 ((q:Int) - 1)∧o=.slice a len cap∧Own w.heap.size wr a len cap ((eightI (n:Int)).take (8 - q))∧Below w.heap.size w wr) (fun _ i _=>((intOf i)+1).toNat)
 case atStart=>exact ⟨_,8,0,0,Nat.le_refl _,rfl,rfl,rfl,hoe,hbe⟩
 case round =>
  obtain ⟨a,q,len,cap,hq,hle,rfl,rfl,hor,hbr⟩:=hrel
  have HLe:Hid (len=8 - q):=hle
  clear hle
  rcases q with _ | q
  ·go_wp2
   go_ret
   obtain rfl:len=8:=HLe.out
   exact ⟨_,_,rfl,hor,hbr⟩
  ·have e1:((q+1:Nat):Int) - 1=(q:Int):=by omega
   rw [e1]
   clear e1
   have hl9:len≤9:=by have:=HLe.out; omega
   have hq7:q≤7:=by omega
   have hws:w.heap.size≤wr.heap.size:=hbr.size
   have HE:Hid (_=_):=eight_at n q hq7
   go_wp2_with (at_builtin; go_loud (refine wpList_append_own _ rfl _ _ 26 rfl w.heap.size 5 i0 (.int .u8 0) 1 1 Tryz.underlying26 hi hz0 hz1 hz2 rfl (by decide) _ _ _ rfl (hor.row.alloc _) ⟨wr.heap.size,0,none⟩ 1 1 [_] rfl rfl (cell_one_new _ _ _) (by intro u hu; simp at hu; subst hu; rfl) (by unfold maxLen; omega) (by omega) (by simp; omega) ?_); intro v' w1 hown' hgrow' _)
   have hb1:Below w.heap.size w w1:=below_appended (hbr.alloc hws _) (by simp; omega) (hor.row.alloc _) hgrow'
   rw [HE.out] at hown'
   obtain ⟨a',cap',rfl,ho⟩:=own_appended (ys:=[(eightI (n:Int)).getD (7 - q) 0]) hown' hor.byte (by simpa using snoc_byte (xs:=[]) (by simp) _ (eightI_byte (n:Int) (7 - q)))
   have e2:(eightI (n:Int)).take (8 - (q+1))++[(eightI (n:Int)).getD (7 - q) 0]=(eightI (n:Int)).take (8 - q):=by
    rw [show 8 - q=7 - q+1 by omega,show 8 - (q+1)=7 - q by omega,take_snoc _ _ (by rw [eightI_len]; omega)]
   rw [e2] at ho
   go_roundw
   case rel=>exact ⟨a',q,len+1,cap',by omega,by have:=HLe.out; omega,rfl,rfl,ho,hb1⟩
   case measure=>simp [intOf]
open Go.RowKit
def U64 (v:Int):Prop:=0≤v∧v≤18446744073709551615
structure RowU (w:World)(a:Option Addr)(n:Nat)(zs:List Int):Prop where
 len:zs.length=n
 get:∀ k,k<n→∃ b off,a=some ⟨b,off,none⟩∧b<w.heap.size∧w.cell? ⟨b,off+k,none⟩=some (.int .u64 (zs.getD k 0))
 rng:∀ k,U64 (zs.getD k 0)
theorem RowU.kept {w w':World}{a:Option Addr}{n:Nat}{zs:List Int}(h:RowU w a n zs)(hb:Below w.heap.size w w'):RowU w' a n zs:=by
 refine ⟨h.len,fun k hk=>?_,h.rng⟩
 obtain ⟨b,off,ha,hlt,hc⟩:=h.get k hk
 exact ⟨b,off,ha,Nat.lt_of_lt_of_le hlt hb.size,(hb.cell (p:=⟨b,off+k,none⟩) hlt).trans hc⟩
structure OwnU (B:Nat)(w:World)(a:Option Addr)(n cap:Nat)(zs:List Int):Prop where
 row:w.ownsRow B 29 1 (.slice a n cap) n (zs.map (Value.int .u64))
 rng:∀ k,U64 (zs.getD k 0)
theorem OwnU.len {B:Nat}{w:World}{a:Option Addr}{n cap:Nat}{zs:List Int}(h:OwnU B w a n cap zs):zs.length=n:=by simpa using h.row.1
theorem OwnU.shape {B:Nat}{w:World}{a:Option Addr}{n cap:Nat}{zs:List Int}(h:OwnU B w a n cap zs)(hn:0<n):∃ g,a=some ⟨g,0,none⟩∧B≤g∧g<w.heap.size:=by
 rcases h.row.2 with ⟨_,h0⟩ | ⟨g,cap',cur,hv,hb,hg,_⟩
 ·omega
 ·simp only [Value.slice.injEq] at hv
  exact ⟨g,hv.1,hb,(Array.getElem?_eq_some_iff.1 hg).1⟩
theorem OwnU.toRow {B:Nat}{w:World}{a:Option Addr}{n cap:Nat}{zs:List Int}(h:OwnU B w a n cap zs):RowU w a n zs:=by
 refine ⟨h.len,fun k hk=>?_,h.rng⟩
 obtain ⟨g,rfl,_,hg⟩:=h.shape (by omega)
 refine ⟨g,0,rfl,hg,?_⟩
 rw [Nat.zero_add,World.ownsRow.cellAt h.row k (by omega)]
 have:=h.len
 simp [show k<zs.length by omega]
theorem OwnU.kept {B:Nat}{w w':World}{a:Option Addr}{n cap:Nat}{zs:List Int}(h:OwnU B w a n cap zs)(hb:Below w.heap.size w w'):OwnU B w' a n cap zs:=⟨ownsRow_below h.row hb,h.rng⟩
theorem ownU_appended {B:Nat}{w:World}{v:Value}{m:Nat}{zs:List Int}(hz:∀ k,U64 (zs.getD k 0))(h:w.ownsRow B 29 1 v m (zs.map (Value.int .u64))):∃ a cap,v=.slice a m cap∧OwnU B w a m cap zs:=by
 rcases h.2 with ⟨rfl,rfl⟩ | ⟨g,cap,cur,rfl,_⟩
 ·exact ⟨_,_,rfl,h,hz⟩
 ·exact ⟨_,_,rfl,h,hz⟩
theorem u64_snoc {zs:List Int}(h:∀ k,U64 (zs.getD k 0)){x:Int}(hx:U64 x):∀ k,U64 ((zs++[x]).getD k 0):=by
 intro k
 rw [List.getD_eq_getElem?_getD,List.getElem?_append]
 split
 ·simpa [List.getD_eq_getElem?_getD] using h k
 ·rw [List.getElem?_singleton]
  split
  ·exact hx
  ·simp [U64]
theorem u64_rep (n:Nat):∀ k,U64 ((List.replicate n (0:Int)).getD k 0):=by
 intro k
 rw [List.getD_eq_getElem?_getD,List.getElem?_replicate]
 split <;> simp [U64]
theorem u64_half {zs:List Int}(h:∀ k,U64 (zs.getD k 0))(j:Nat):∀ k,U64 ((half zs j).getD k 0):=by
 intro k
 unfold half
 rw [List.getD_eq_getElem?_getD,List.getElem?_append]
 split
 ·rw [List.getElem?_take]
  split
  ·simpa [List.getD_eq_getElem?_getD] using h k
  ·simp [U64]
 ·rw [List.getElem?_replicate]
  split <;> simp [U64]
theorem ownU_empty (w:World):OwnU w.heap.size (w.alloc (.cells #[] 29)) (some ⟨w.heap.size,0,none⟩) 0 0 [] :=
 ⟨World.ownsRow_lit w #[] 0 (Nat.le_refl _) (Nat.zero_le _) rfl,by simp [U64]⟩
theorem ownU_none (B:Nat)(w:World):OwnU B w none 0 0 []:=⟨World.ownsRow_nil _ _ _ _,by simp [U64]⟩
abbrev Part:=Option Addr × Nat × Nat × List Int
def pval (p:Part):Value:=.slice p.1 p.2.1 p.2.2.1
def TyB (w:World)(a:Option Addr):Prop:=∀ b off s,a=some ⟨b,off,s⟩→∃ cs t fr,w.heap[b]? = some (.cells cs t fr)∧t≠26
theorem TyB.kept {w w':World}{a:Option Addr}(h:TyB w a)(hb:Below w.heap.size w w'):TyB w' a:=by
 intro b off s e
 obtain ⟨cs,t,fr,h1,h2⟩:=h b off s e
 exact ⟨cs,t,fr,(hb.block _ (Array.getElem?_eq_some_iff.1 h1).1).trans h1,h2⟩
theorem Own.ty {B:Nat}{w:World}{a:Option Addr}{n cap:Nat}{bs:List Int}(h:Own B w a n cap bs):TyB w a:=by
 intro b off s e
 rcases h.row.2 with ⟨hv,_⟩ | ⟨g,cap',cur,hv,hb,hg,_⟩
 ·simp only [Value.slice.injEq] at hv; rw [hv.1] at e; cases e
 ·simp only [Value.slice.injEq] at hv
  rw [hv.1] at e
  simp at e
  obtain ⟨rfl,_⟩:=e
  exact ⟨cur,5,(0,0),hg,by decide⟩
structure Good (w:World)(p:Part):Prop where
 row:Row w p.1 p.2.1 p.2.2.2
 nil:p.1=none→p.2.2.1=0
 ty:TyB w p.1
theorem Good.kept {w w':World}{p:Part}(h:Good w p)(hb:Below w.heap.size w w'):Good w' p:=⟨h.row.kept hb,h.nil,h.ty.kept hb⟩
structure OwnP (B:Nat)(w:World)(a:Option Addr)(n cap:Nat)(ps:List Part):Prop where
 row:w.ownsRow B 26 1 (.slice a n cap) n (ps.map pval)
 get:∀ p∈ps,Good w p
theorem OwnP.rows {B:Nat}{w:World}{a:Option Addr}{n cap:Nat}{ps:List Part}(h:OwnP B w a n cap ps):Rows2 w a n (ps.map fun p=>p.2.2.2):=by
 have hl:ps.length=n:=by simpa using h.row.1
 refine ⟨by simpa using hl,fun k hk=>?_⟩
 rcases h.row.2 with ⟨_,h0⟩ | ⟨g,cap',cur,hv,hb,hg,_⟩
 ·omega
 ·simp only [Value.slice.injEq] at hv
  obtain ⟨rfl,_,rfl⟩:=hv
  have hkl:k<ps.length:=by omega
  refine ⟨g,0,rfl,(Array.getElem?_eq_some_iff.1 hg).1,ps[k].1,ps[k].2.1,ps[k].2.2.1,?_,?_,(h.get ps[k] (List.getElem_mem hkl)).nil⟩
  ·rw [Nat.zero_add,World.ownsRow.cellAt h.row k (by omega)]
   simp [hkl,pval]
  ·have e:(ps.map fun p=>p.2.2.2).getD k []=ps[k].2.2.2:=by simp [hkl]
   rw [e]
   exact (h.get ps[k] (List.getElem_mem hkl)).row
theorem OwnP.kept {B:Nat}{w w':World}{a:Option Addr}{n cap:Nat}{ps:List Part}(h:OwnP B w a n cap ps)(hb:Below w.heap.size w w'):OwnP B w' a n cap ps :=
 ⟨ownsRow_below h.row hb,fun p hp=>(h.get p hp).kept hb⟩
theorem ownP_one (w:World)(p:Part)(h:Good w p):OwnP w.heap.size (w.alloc (.cells #[pval p] 26)) (some ⟨w.heap.size,0,none⟩) 1 1 [p] :=
 ⟨World.ownsRow_lit w #[pval p] 1 (Nat.le_refl _) (by unfold maxLen; omega) rfl,fun q hq=>by
  simp at hq
  subst hq
  exact h.kept ((Below.refl _ _).alloc (Nat.le_refl _) _)⟩
theorem ownP_appended {B n:Nat}{w w':World}{v vold:Value}{m:Nat}{ps:List Part}{p:Part}{xs:List Value}(hold:w.ownsRow B 26 1 vold n xs)(hv:w'.ownsRow B 26 1 v m ((ps++[p]).map pval))(hg:w.grownBy w' vold.ownBlock)
  (hps:∀ q∈ps,Good w q) (hp:Good w p):∃ a cap,v=.slice a m cap∧OwnP B w' a m cap (ps++[p]):=by
 have one:∀ b:Nat,(∃ cs t fr,w.heap[b]? = some (Obj.cells cs t fr)∧t≠26)→w'.heap[b]? = w.heap[b]?:=by
  intro b hb
  obtain ⟨cs,t,fr,h1,h2⟩:=hb
  refine hg.block b (Array.getElem?_eq_some_iff.1 h1).1 (fun e=>?_)
  rcases hold.2 with ⟨h',_⟩ | ⟨g,cap,cur,h',_,hgg,_⟩
  ·rw [h'] at e; cases e
  ·rw [h'] at e
   simp [Value.ownBlock] at e
   subst e
   rw [hgg] at h1
   simp at h1
   exact h2 h1.2.1.symm
 have key:∀ q,Good w q→Good w' q:=by
  intro q hq
  refine ⟨⟨hq.row.len,fun k hk=>?_,hq.row.byte⟩,hq.nil,fun b off s e=>?_⟩
  ·obtain ⟨b,off,ha,hb,hc⟩:=hq.row.get k hk
   exact ⟨b,off,ha,Nat.lt_of_lt_of_le hb hg.size,(World.cell?_of_block (a:=⟨b,off+k,none⟩) (one b (hq.ty b off none ha))).trans hc⟩
  ·obtain ⟨cs,t,fr,h1,h2⟩:=hq.ty b off s e
   exact ⟨cs,t,fr,(one b ⟨cs,t,fr,h1,h2⟩).trans h1,h2⟩
 have all:∀ q∈ps++[p],Good w' q:=by
  intro q hq
  rw [List.mem_append,List.mem_singleton] at hq
  rcases hq with h | rfl
  ·exact key q (hps q h)
  ·exact key q hp
 rcases hv.2 with ⟨rfl,rfl⟩ | ⟨g,cap,cur,rfl,r⟩
 ·exact ⟨_,_,rfl,hv,all⟩
 ·exact ⟨_,_,rfl,hv,all⟩
def strL (s:ByteArray):List Int:=(List.range s.size).map (cAt s)
theorem strL_len (s:ByteArray):(strL s).length=s.size:=by simp [strL]
theorem strL_get (s:ByteArray)(k:Nat)(h:k<s.size):(strL s).getD k 0=cAt s k:=by simp [strL,h]
theorem conv_strT (w:World)(s:ByteArray) :
  ∃ cp W,(convert 9 26 (.string s)).run Tryz.prog w=.ok (.slice (some ⟨w.heap.size,0,none⟩) s.size cp) W∧Good W (some ⟨w.heap.size,0,none⟩,s.size,cp,strL s)∧Below w.heap.size w W:=by
 have hr:=run_bytes_of_string (P:=Tryz.prog) w 9 26 5 s Tryz.underlying9 Tryz.underlying26 Tryz.underlying5
 obtain ⟨cp,hcp⟩:∃ cp,cp=grownCap w s.size 0 5:=⟨_,rfl⟩
 rw [← hcp] at hr
 refine ⟨cp,_,hr,⟨⟨strL_len s,fun k hk=>⟨w.heap.size,0,rfl,by simp,?_⟩,fun k=>?_⟩,(fun h=>by cases h),?_⟩,((Below.refl _ _).drew).alloc (Nat.le_refl _) _⟩
 ·rw [Nat.zero_add,cell_of_row _ w.heap.size k _ 5 _ (heap_alloc_new w.drew _),strL_get s k hk,cAt_get s k hk]
  have h1:k<s.data.size:=hk
  unfold bytesRow
  rw [Array.getElem?_append_left (by simpa using h1),Array.getElem?_map,Array.getElem?_eq_getElem h1]
  rfl
 ·by_cases hk:k<s.size
  ·rw [strL_get s k hk,cAt_get s k hk]
   have:=s[k].toNat_lt
   omega
  ·rw [List.getD_eq_getElem?_getD,List.getElem?_eq_none (by rw [strL_len]; omega)]; simp
 ·intro b off s' e
  simp at e
  obtain ⟨rfl,_⟩:=e
  exact ⟨_,5,_,heap_alloc_new w.drew _,by decide⟩
open Go.RowKit
theorem keepT {w w1 w2:World}(h:Below w.heap.size w w1)(k:Below w1.heap.size w1 w2):Below w.heap.size w w2:=h.trans (k.mono h.size)
theorem Tryz.infoBytes:(Tryz.prog.info? 26).map (fun i=>(i.zero,i.size,i.bytes))=some (some (.slice none 0 0),1,24):=by kernel_rfl
def hashD (word:List Int)(ds:List Int):Int:=hashL (partsL (word::ds.map eightI))
theorem hashD_bd (word ds:List Int):U64 (hashD word ds):=hashL_bd _
def bytesOfP (ps:List Part):List (List Int):=ps.map fun p=>p.2.2.2
theorem total_parts (word:List Int)(ds:List Int):total (word::ds.map eightI)=word.length+8 * ds.length:=by
 unfold total
 rw [List.map_cons,List.sum_cons,List.map_map]
 have:∀ l:List Int,(l.map (List.length ∘ eightI)).sum=8 * l.length:=by
  intro l
  induction l with
  | nil=>rfl
  | cons x r ih=>rw [List.map_cons,List.sum_cons,ih,List.length_cons]; simp [eightI_len]; omega
 rw [this]
theorem map_snoc (ds:List Int)(k:Nat)(h:k<ds.length):(ds.take (k+1)).map eightI=(ds.take k).map eightI++[eightI (ds.getD k 0)]:=by rw [take_snoc ds k h,List.map_append]; rfl
theorem hashDigests_any (s:ByteArray)(a:Option Addr)(n c:Nat)(ds:List Int)(w:World)(h:RowU w a n ds)(hn:n≤100000)(hs:s.size≤1000) :
  Calls Tryz.prog 204 #[.string s,.slice a n c] w fun e w'=>e=.returned (.int .u64 (hashD (strL s) ds))∧Below w.heap.size w w':=by
 obtain ⟨i0,hi,hz0,hz1,hz2⟩:=info_parts Tryz.infoBytes
 have H0:Hid (RowU w a n ds):=h
 have HL:Hid (ds.length=n):=h.len
 clear h
 obtain ⟨cp,W,hcv,hgd,hb0⟩:=conv_strT w s
 have HO:Hid (OwnP W.heap.size (W.alloc (.cells #[.slice (some ⟨w.heap.size,0,none⟩) s.size cp] 26)) (some ⟨W.heap.size,0,none⟩) 1 1 [(some ⟨w.heap.size,0,none⟩,s.size,cp,strL s)]):=ownP_one W _ hgd
 have hb1:Below w.heap.size w (W.alloc (.cells #[.slice (some ⟨w.heap.size,0,none⟩) s.size cp] 26)):=hb0.alloc hb0.size _
 have hWs:=hb0.size
 go_enter Tryz.func204,Tryz.ntmps204
 go_wp2
 clear hcv
 go_loopw [5,13] (fun o i wr=>∃ (k m cc:Nat) (ao:Option Addr) (ps:List Part),k≤n∧m=k+1∧i=.int .i64 k∧o=.slice ao m cc∧OwnP w.heap.size wr ao m cc ps∧Hid (bytesOfP ps=strL s::(ds.take k).map eightI)∧Below w.heap.size w wr) (fun _ i _=>n - (intOf i).toNat)
 case atStart=>exact ⟨0,1,1,_,_,Nat.zero_le _,rfl,rfl,rfl,⟨⟨HO.out.row.1,by rcases HO.out.row.2 with h | ⟨g,cap,cur,hv,hb,r⟩; exact .inl h; exact .inr ⟨g,cap,cur,hv,by omega,r⟩⟩,HO.out.get⟩,rfl,hb1⟩
 case round =>
  obtain ⟨k,m,cc,ao,ps,hk,rfl,rfl,rfl,hor,HP,hbr⟩:=hrel
  have hws:=hbr.size
  by_cases hlt:k<n
  ·obtain ⟨b,off,rfl,hlb,hc0⟩:=H0.out.get k hlt
   have hcell:wr.cell? ⟨b,off+k,none⟩=some (.int .u64 (ds.getD k 0)):=(hbr.cell (p:=⟨b,off+k,none⟩) hlb).trans hc0
   obtain ⟨hd0,hd1⟩:=H0.out.rng k
   obtain ⟨d,hd⟩:∃ d,d=ds.getD k 0:=⟨_,rfl⟩
   rw [← hd] at hcell hd0 hd1
   have HN:Hid (strL s::(ds.take (k+1)).map eightI=(strL s::(ds.take k).map eightI)++[eightI d]):=by show _=_; rw [map_snoc ds k (by rw [HL.out]; exact hlt),hd]; rfl
   have hlti:(k:Int)<(n:Int):=by omega
   have HOR:Hid (_):=hor
   clear hd hc0 hor HO
   go_wp2_with fail
   refine (digestBytes_any d _ hd0 hd1).mono ?_
   rintro e w2 ⟨g,rfl,hrow,⟨cs,fr,hty⟩,hb2⟩
   have hgd2:Good w2 (some ⟨g,0,none⟩,8,8,eightI d):=⟨hrow,(fun h=>by cases h),fun b off s e=>by simp at e; obtain ⟨rfl,_⟩:=e; exact ⟨cs,_,fr,hty,by decide⟩⟩
   have hor2:=HOR.out.kept hb2
   have hal:Below w2.heap.size w2 (w2.alloc (.cells #[.slice (some ⟨g,0,none⟩) 8 8] 26)):=(Below.refl _ _).alloc (Nat.le_refl _) _
   have hor3:=hor2.kept hal
   have hgd3:=hgd2.kept hal
   have hbr3:Below w.heap.size w (w2.alloc (.cells #[.slice (some ⟨g,0,none⟩) 8 8] 26)):=keepT (keepT hbr hb2) hal
   have hcl:∀ jj uu,([pval (some ⟨g,0,none⟩,8,8,eightI d)]:List Value)[jj]? = some uu→(w2.alloc (.cells #[.slice (some ⟨g,0,none⟩) 8 8] 26)).cell? ((⟨w2.heap.size,0,none⟩:Addr).add jj)=some uu:=by
    intro jj uu hju
    rw [Addr.add_lit,Nat.zero_add,cell_of_row _ w2.heap.size jj _ 26 _ (heap_alloc_new w2 _),← hju]
    simp [pval]
   clear hrow hty hgd2 hor2 hal HOR
   go_wp2_with (first | (at_builtin; refine wpList_append_own _ rfl (.tmp 17) (.tmp 20) 121 rfl w.heap.size 26 i0 _ 1 24 Tryz.underlying121 hi hz0 hz1 hz2 rfl (by decide) _ (k+1) _ rfl hor3.row ⟨w2.heap.size,0,none⟩ 1 1 [pval (some ⟨g,0,none⟩,8,8,eightI d)] rfl rfl hcl (by intro u hu; simp at hu; subst hu; rfl) (by unfold maxLen; omega) (by omega) (by have:=hbr3.size; exact this) ?_; intro v4 w4 hv4 hg4 _))
   have he:ps.map pval++[pval (some ⟨g,0,none⟩,8,8,eightI d)]=(ps++[((some ⟨g,0,none⟩,8,8,eightI d):Part)]).map pval:=by rw [List.map_append]; rfl
   rw [he] at hv4
   obtain ⟨a4,c4,rfl,ho4⟩:=ownP_appended hor3.row hv4 hg4 hor3.get hgd3
   have hbr4:Below w.heap.size w w4:=hbr3.grown hg4 hbr3.size (fun k hk=>(hor3.row.lt k hk).1)
   have HN2:Hid (bytesOfP (ps++[((some ⟨g,0,none⟩,8,8,eightI d):Part)])=strL s::(ds.take (k+1)).map eightI):=by show _=_; rw [HN.out,← HP.out]; unfold bytesOfP; rw [List.map_append]; rfl
   go_roundw
   case rel=>exact ⟨k+1,k+1+1,c4,a4,_,by omega,rfl,by go_num,rfl,ho4,HN2,hbr4⟩
   case measure=>simp [intOf]; omega
  ·obtain rfl:k=n:=by omega
   have HR:Hid (Rows2 wr ao (k+1) (strL s::ds.map eightI)):=by
    have:=hor.rows
    have e:=HP.out
    rw [List.take_of_length_le (by rw [HL.out]; exact Nat.le_refl _)] at e
    rw [← e]
    exact this
   have HT:Hid (total (strL s::ds.map eightI)≤2097152):=by show _≤_; rw [total_parts,strL_len,HL.out]; omega
   clear hor HO HP
   go_wp2_with fail
   refine (implHashAll_any ao (k+1) cc (strL s::ds.map eightI) _ HR.out (by omega) HT.out).mono ?_
   rintro e w2 ⟨rfl,hb2⟩
   go_wp2
   go_ret
   exact ⟨rfl,keepT hbr hb2⟩
end Go.Proofs.YtnmplldhdfingaaGreatDoor
