import Derived.Laws.Rows
import Derived.Below
import Derived.Laws.Tables
import Derived.RegionTactic
import Derived.Tactics
import Derived.Laws.Strings
import Derived.Deep.AppendLies
import Derived.Handed
import Derived.HandedShaped
import Derived.Test.YtmdfbnlgfhjnoaaGreatDoorFD01
set_option maxRecDepth 10000
set_option maxHeartbeats 8000000
set_option linter.unusedVariables false
namespace Go.Proofs.YtmdfbnlgfhjnoaaGreatDoor
open Go Go.RowKit
theorem qk {w:World}{g j t:Nat}{c:Array Value}{v:Value}(h:w.heap[g]? = some (.cells c t (0,0)))(e:c[j]? = some v):w.cell? ⟨g,j,none⟩=some v:=(cell_of_row w g j c t (0,0) h).trans e
open Go.RowKit
structure Touch (lo hi:Nat)(w w':World):Prop where
 os:w'.os=w.os
 tape:w'.tape=w.tape
 output:w'.output=w.output
 size:w.heap.size≤w'.heap.size
 block:∀ k,k<w.heap.size→k<lo∨hi≤k→w'.heap[k]? = w.heap[k]?
theorem Touch.of_below {lo hi:Nat}{w w':World}(h:Below w.heap.size w w'):Touch lo hi w w':=⟨h.os,h.tape,h.output,h.size,fun k hk _=>h.block k hk⟩
theorem Touch.trans {lo hi:Nat}{a b c:World}(h:Touch lo hi a b)(k:Touch lo hi b c):Touch lo hi a c :=
 ⟨k.os.trans h.os,k.tape.trans h.tape,k.output.trans h.output,Nat.le_trans h.size k.size,fun i hi' ho=>(k.block i (Nat.lt_of_lt_of_le hi' h.size) ho).trans (h.block i hi' ho)⟩
theorem Touch.below {lo hi B:Nat}{w w':World}(h:Touch lo hi w w')(hB:B≤lo)(hw:B≤w.heap.size):Below B w w' :=
 ⟨h.os,h.tape,h.output,h.size,fun k hk=>h.block k (by omega) (by omega)⟩
def In (a:Option Addr)(n lo hi:Nat):Prop:=∀ b off,a=some ⟨b,off,none⟩→0<n→lo≤b∧b<hi
theorem Row.touch {lo hi p q:Nat}{w w':World}{a:Option Addr}{n:Nat}{bs:List Int}(h:Row w a n bs)(hi':In a n p q)(hd:q≤lo∨hi≤p)(ht:Touch lo hi w w'):Row w' a n bs:=by
 refine ⟨h.len,fun k hk=>?_,h.byte⟩
 obtain ⟨b,off,ha,hb,hc⟩:=h.get k hk
 have hp:=hi' b off ha (by omega)
 exact ⟨b,off,ha,Nat.lt_of_lt_of_le hb ht.size,(World.cell?_of_block (a:=⟨b,off+k,none⟩) (ht.block b hb (by omega))).trans hc⟩
open Go.RowKit
def aT (a:Act)(t:Nat):Value:=a.tmps.getD t undef
def upd (l:Nat→Bool)(i:Nat):Nat→Bool:=fun k=>decide (k=i) || l k
theorem upd_same (l:Nat→Bool)(i:Nat):upd l i i=true:=by simp [upd]
theorem upd_ne {l:Nat→Bool}{i k:Nat}(h:k≠i):upd l i k=l k:=by simp [upd,h]
theorem upd_mono {l:Nat→Bool}{i k:Nat}(h:l k=true):upd l i k=true:=by simp [upd,h]
theorem of_upd {l:Nat→Bool}{i k:Nat}(h:upd l i k=false):l k=false:=by
 simp [upd] at h
 exact h.2
structure Fr (D:List Nat)(a0 a:Act):Prop where
 size:a.tmps.size=a0.tmps.size
 defers:a.defers=a0.defers
 same:∀ t,t∉D→aT a t=aT a0 t
theorem Fr.refl (D:List Nat)(a:Act):Fr D a a:=⟨rfl,rfl,fun _ _=>rfl⟩
theorem aT_put_ne {a:Act}{d t:Nat}{v:Value}(h:d≠t):aT (a.put (some d) v) t=aT a t:=by
 simp [aT,Act.put,Array.getElem?_setIfInBounds_ne h]
theorem aT_put_eq {a:Act}{d:Nat}{v:Value}(h:d<a.tmps.size):aT (a.put (some d) v) d=v:=by
 simp [aT,Act.put,h]
theorem Fr.put {D:List Nat}{a0 a:Act}{d:Nat}(h:Fr D a0 a)(hd:d∈D)(v:Value):Fr D a0 (a.put (some d) v) :=
 ⟨by simp [Act.put,h.size],h.defers,fun t ht=>(aT_put_ne (fun e=>ht (by rw [← e]; exact hd))).trans (h.same t ht)⟩
def puts (f:Nat→Value):List Nat→Act→Act
 | [],a=>a
 | d::D,a=>puts f D (a.put (some d) (f d))
theorem puts_size (f:Nat→Value):∀ (D:List Nat) (a:Act),(puts f D a).tmps.size=a.tmps.size
 | [],_=>rfl
 | d::D,a=>by rw [puts,puts_size f D]; simp [Act.put]
theorem puts_defers (f:Nat→Value):∀ (D:List Nat) (a:Act),(puts f D a).defers=a.defers
 | [],_=>rfl
 | d::D,a=>by rw [puts,puts_defers f D]; rfl
theorem puts_at (f:Nat→Value):∀ (D:List Nat) (a:Act) (t:Nat),t<a.tmps.size→aT (puts f D a) t=if t∈D then f t else aT a t
 | [],_,_,_=>by simp [puts]
 | d::D,a,t,ht=>by
  rw [puts,puts_at f D _ t (by simpa [Act.put] using ht)]
  by_cases h:t∈D
  ·simp [h]
  ·by_cases h2:t=d
   ·subst h2
    simp [h,aT_put_eq ht]
   ·simp [h,h2,aT_put_ne (Ne.symm h2)]
theorem act_ext {a b:Act}(hs:a.tmps.size=b.tmps.size)(hd:a.defers=b.defers)(h:∀ t,t<a.tmps.size→aT a t=aT b t):a=b:=by
 obtain ⟨x,dx⟩:=a
 obtain ⟨y,dy⟩:=b
 simp only at hd hs
 subst hd
 congr 1
 refine Array.ext hs (fun i h1 h2=>?_)
 have:=h i h1
 simpa [aT,h1,h2] using this
theorem Fr.eq {D:List Nat}{a0 a:Act}(h:Fr D a0 a):a=puts (aT a) D a0:=by
 refine act_ext (h.size.trans (puts_size _ _ _).symm) (h.defers.trans (puts_defers _ _ _).symm) (fun t ht=>?_)
 rw [puts_at _ _ _ _ (h.size ▸ ht)]
 by_cases hd:t∈D
 ·simp [hd]
 ·simp [hd,h.same t hd]
structure RSpec where
 m:Nat
 n:Nat
 slots:List Nat
 fact:Nat→Value→World→Prop
 kills:List (List Nat)
 pres:List (List Nat)
def RSpec.slot (S:RSpec)(k:Nat):Nat:=S.slots.getD k 0
def RSpec.kill (S:RSpec)(k:Nat):List Nat:=S.kills.getD k []
def RSpec.pre (S:RSpec)(k:Nat):List Nat:=S.pres.getD k []
structure RI (S:RSpec)(D:List Nat)(B:Nat)(w0:World)(a0:Act)(l:Nat→Bool)(a:Act)(w:World):Prop where
 fr:Fr D a0 a
 bel:Below B w0 w
 vt:∀ k,S.m≤k→l k=true
 cl:∀ k,k<S.n→l k=true→∀ j∈S.pre k,l j=true
 fact:∀ k,k<S.n→l k=true→(∀ j∈S.kill k,l j=false)→S.fact k (aT a (S.slot k)) w
def StB (p:Value→World→Prop):Prop:=∀ v w w',p v w→Below w.heap.size w w'→p v w'
def RSpec.free (S:RSpec)(i d:Nat):Bool:=(List.range S.n).all fun k=>k == i || S.slot k != d || (S.pre k).contains i
theorem RSpec.free_of {S:RSpec}{i d:Nat}(h:S.free i d=true){k:Nat}(hk:k<S.n)(hne:k≠i)(hs:S.slot k=d):i∈S.pre k:=by
 have:=List.all_eq_true.1 h k (List.mem_range.2 hk)
 simpa [hne,hs] using this
theorem RI.put {S:RSpec}{D:List Nat}{B:Nat}{w0:World}{a0:Act}{l:Nat→Bool}{a:Act}{w:World}(h:RI S D B w0 a0 l a w)(i d:Nat){v:Value}{w':World}(hpre:S.pre i = [])
  (hd:D.contains d=true) (hs:d<a0.tmps.size) (hsl:S.slot i=d) (hli:l i=false) (hne:S.free i d=true) (hB:B≤w0.heap.size)
  (hst:∀ k,k<S.n→StB (S.fact k)) (hb:Below w.heap.size w w') (hf:S.fact i v w'):RI S D B w0 a0 (upd l i) (a.put (some d) v) w':=by
 refine ⟨h.fr.put (List.contains_iff_mem.1 hd) v,h.bel.trans (hb.mono (Nat.le_trans hB h.bel.size)),fun k hk=>upd_mono (h.vt k hk),fun k hk hl j hj=>?_,fun k hk hl hkill=>?_⟩
 ·by_cases e:k=i
  ·subst e
   rw [hpre] at hj
   cases hj
  ·rw [upd_ne e] at hl
   exact upd_mono (h.cl k hk hl j hj)
 ·by_cases e:k=i
  ·subst e
   rw [hsl,aT_put_eq (by rw [h.fr.size]; exact hs)]
   exact hf
  ·rw [upd_ne e] at hl
   have hsk:S.slot k≠d:=fun e2=>by
    have:=h.cl k hk hl i (S.free_of hne hk e e2)
    rw [hli] at this
    cases this
   rw [aT_put_ne (Ne.symm hsk)]
   exact hst k hk _ _ _ (h.fact k hk hl (fun j hj=>of_upd (hkill j hj))) hb
theorem RI.store {S:RSpec}{D:List Nat}{B:Nat}{w0:World}{a0:Act}{l:Nat→Bool}{a:Act}{w:World}(h:RI S D B w0 a0 l a w)(i:Nat){w':World}(hpre:∀ j∈S.pre i,l j=true)
  (hb:Below B w0 w') (hst:∀ k,k<S.n→k≠i→i∉S.kill k→∀ v,S.fact k v w→S.fact k v w') (hf:S.fact i (aT a (S.slot i)) w'):RI S D B w0 a0 (upd l i) (a.put none undef) w':=by
 refine ⟨h.fr,hb,fun k hk=>upd_mono (h.vt k hk),fun k hk hl j hj=>?_,fun k hk hl hkill=>?_⟩
 ·by_cases e:k=i
  ·subst e
   exact upd_mono (hpre j hj)
  ·rw [upd_ne e] at hl
   exact upd_mono (h.cl k hk hl j hj)
 ·by_cases e:k=i
  ·subst e
   exact hf
  ·rw [upd_ne e] at hl
   refine hst k hk e (fun hm=>?_) _ (h.fact k hk hl (fun j hj=>of_upd (hkill j hj)))
   have:=hkill i hm
   rw [upd_same] at this
   cases this
theorem RI.vot {S:RSpec}{D:List Nat}{B:Nat}{w0:World}{a0:Act}{l:Nat→Bool}{a:Act}{w:World}(h:RI S D B w0 a0 l a w)(k:Nat)(hk:k<S.n)(hm:S.m≤k)(hkill:S.kill k = []):S.fact k (aT a (S.slot k)) w:=h.fact k hk (h.vt k hm) (by simp [hkill])
theorem RI.vot1 {S:RSpec}{D:List Nat}{B:Nat}{w0:World}{a0:Act}{l:Nat→Bool}{a:Act}{w:World}(h:RI S D B w0 a0 l a w)(k i:Nat)(hk:k<S.n)(hm:S.m≤k)(hli:l i=false)(hkill:S.kill k = [i]):S.fact k (aT a (S.slot k)) w:=h.fact k hk (h.vt k hm) (by simp [hkill,hli])
theorem RI.got {S:RSpec}{D:List Nat}{B:Nat}{w0:World}{a0:Act}{l:Nat→Bool}{a:Act}{w:World}(h:RI S D B w0 a0 l a w)(k:Nat)(hk:k<S.n)(hl:l k=true)(hkill:S.kill k = []):S.fact k (aT a (S.slot k)) w:=h.fact k hk hl (by simp [hkill])
theorem edge {l:Nat→Bool}{o:Oper}(he:∀ e∈o.after,Region.binds .any e=true→l e.on=true)(j:Nat)(h:(o.after.toList.any fun e=>Region.binds .any e && (e.on == j))=true):l j=true:=by
 obtain ⟨e,hm,h2⟩:=List.any_eq_true.1 h
 simp only [Bool.and_eq_true,beq_iff_eq] at h2
 rw [← h2.2]
 exact he e (Array.mem_toList_iff.1 hm) h2.1
theorem box_box {g g' t t':Nat}{w w':World}{cs cs':Array Value}{fr fr':Nat × Nat}(h:w.heap[g']? = some (.cells cs' t' fr'))(hg:w.heap[g]? = some (.cells cs t fr))(hne:t≠t')(ht:Touch g (g+1) w w'):w'.heap[g']? = some (.cells cs' t' fr'):=by
 have:g'≠g:=fun e2=>by
  subst e2
  rw [hg] at h
  simp only [Option.some.injEq,Obj.cells.injEq] at h
  exact hne h.2.1
 exact (ht.block g' (Array.getElem?_eq_some_iff.1 h).1 (by omega)).trans h
theorem setRow_touch (w:World)(g:Nat)(cs:Array Value):Touch g (g+1) w (w.setRow g cs) :=
 ⟨rfl,rfl,rfl,by simp [World.setRow],fun k hk ho=>by
  simp only [World.setRow]
  rw [Array.getElem?_modify,if_neg (by omega)]⟩
theorem below_kept {w w':World}{g:Nat}{o:Obj}(h:w.heap[g]? = some o)(hb:Below w.heap.size w w'):w'.heap[g]? = some o:=(hb.block g (Array.getElem?_eq_some_iff.1 h).1).trans h
section
variable {P:Program} {Q:Exit→Act→World→Prop}
def StepsRI (P:Program)(Q:Exit→Act→World→Prop)(S:RSpec)(D:List Nat)(B:Nat)(w0:World)(a0:Act)(i:Nat)(os:List Oper):Prop :=
 ∀ k o,os[k]? = some o→∀ (l:Nat→Bool) (a:Act) (w:World),RI S D B w0 a0 l a w→l (i+k)=false→(∀ e∈o.after,Region.binds .any e=true→l e.on=true)→∀ K':Act→World→Prop,Hid (∀ a w,RI S D B w0 a0 (upd l (i+k)) a w→K' a w)→o.wp P a w K' Q
theorem StepsRI.nil {S:RSpec}{D:List Nat}{B:Nat}{w0:World}{a0:Act}{i:Nat}:StepsRI P Q S D B w0 a0 i []:=fun k o h=>by simp at h
theorem StepsRI.cons {S:RSpec}{D:List Nat}{B:Nat}{w0:World}{a0:Act}{i:Nat}{o:Oper}{os:List Oper}
  (h:∀ (l:Nat→Bool) (a:Act) (w:World),RI S D B w0 a0 l a w→l i=false→(∀ e∈o.after,Region.binds .any e=true→l e.on=true)→∀ K':Act→World→Prop,Hid (∀ a w,RI S D B w0 a0 (upd l i) a w→K' a w)→o.wp P a w K' Q)
  (hs:StepsRI P Q S D B w0 a0 (i+1) os):StepsRI P Q S D B w0 a0 i (o::os):=fun k o' hk=>by
 cases k with
 | zero =>
  simp only [List.getElem?_cons_zero,Option.some.injEq] at hk
  subst hk
  exact h
 | succ k =>
  simp only [List.getElem?_cons_succ] at hk
  have:=hs k o' hk
  rwa [Nat.add_right_comm] at this
def edgesBack (ops:Array Oper):Bool:=(List.range ops.size).all fun i=>((ops[i]?).map fun o=>o.guard.isNone && o.after.all fun e=>!Region.binds .any e || decide (e.on<i)).getD true
theorem edgesBack_of {ops:Array Oper}(h:edgesBack ops=true){i:Nat}{o:Oper}(ho:ops[i]? = some o):o.guard=none∧∀ e∈o.after,Region.binds .any e=true→e.on<i:=by
 have hi:i<ops.size:=(Array.getElem?_eq_some_iff.1 ho).1
 have h1:=List.all_eq_true.1 h i (List.mem_range.2 hi)
 rw [ho] at h1
 simp only [Option.map_some,Option.getD_some,Bool.and_eq_true,Option.isNone_iff_eq_none] at h1
 refine ⟨h1.1,fun e he hb=>?_⟩
 obtain ⟨j,hj,rfl⟩:=Array.mem_iff_getElem.1 he
 have:=(Array.all_eq_true.1 h1.2) j hj
 simpa [hb] using this
theorem all_listed {ops:Array Oper}{listed:Array Bool}(he:edgesBack ops=true)(hz:listed.size=ops.size)(h:Region.ready .any ops listed = []):∀ i,i<ops.size→listed.getD i false=true:=by
 intro i
 induction i using Nat.strongRecOn with
 | ind i ih =>
  intro hi
  cases hl:listed.getD i false with
  | true=>rfl
  | false =>
   exfalso
   have ho:ops[i]? = some ops[i]:=by simp [hi]
   have hm:i∈Region.ready .any ops listed:=mem_ready.2 ⟨by
    have:i<listed.size:=hz ▸ hi
    simp [this] at hl ⊢
    exact hl,_,ho,fun e hee hb=>ih _ ((edgesBack_of he ho).2 e hee hb) (Nat.lt_trans ((edgesBack_of he ho).2 e hee hb) hi)⟩
   rw [h] at hm
   cases hm
theorem wpAny_ri {ops:Array Oper}{S:RSpec}{D:List Nat}{B:Nat}{w0:World}{a0:Act}(he:edgesBack ops=true)(hs:StepsRI P Q S D B w0 a0 0 ops.toList)
  (hend:∀ l a w,RI S D B w0 a0 l a w→(∀ k,l k=true)→Q .normal a w) :
  ∀ (fuel:Nat) (listed:Array Bool) (a:Act) (w:World),listed.size=ops.size→listed.toList.count false≤fuel→RI S D B w0 a0 (fun k=>listed.getD k true) a w→wpAny P .any ops Q fuel listed a w:=by
 have full:∀ listed:Array Bool,listed.size=ops.size→(∀ k,k<ops.size→listed.getD k false=true)→∀ k,listed.getD k true=true:=fun listed hz h k=>by
  by_cases hk:k<listed.size
  ·have:=h k (hz ▸ hk)
   simp [hk] at this ⊢
   exact this
  ·simp [Array.getElem?_eq_none (Nat.le_of_not_lt hk)]
 intro fuel
 induction fuel with
 | zero =>
  intro listed a w hz hc hI
  have hall:∀ k,k<ops.size→listed.getD k false=true:=fun k hk=>by
   have hk':k<listed.size:=hz ▸ hk
   have h0:listed.toList.count false=0:=Nat.le_zero.1 hc
   have:=List.count_eq_zero.1 h0
   cases hv:listed[k] with
   | true=>simp [hk',hv]
   | false=>exact absurd (by rw [← hv]; exact Array.mem_toList_iff.2 (Array.getElem_mem hk')) this
  have hr:Region.ready .any ops listed = []:=by
   refine List.eq_nil_iff_forall_not_mem.2 (fun i hi=>?_)
   obtain ⟨h1,o,ho,_⟩:=mem_ready.1 hi
   have hi':i<ops.size:=(Array.getElem?_eq_some_iff.1 ho).1
   have h2:=hall i hi'
   have hi2:i<listed.size:=hz ▸ hi'
   simp [hi2] at h1 h2
   rw [h1] at h2
   cases h2
  exact ⟨hr,hend _ _ _ hI (full _ hz hall)⟩
 | succ fuel ih =>
  intro listed a w hz hc hI
  refine ⟨fun hr=>hend _ _ _ hI (full _ hz (all_listed he hz hr)),fun i hi=>?_⟩
  obtain ⟨h1,o,ho,hed⟩:=mem_ready.1 hi
  have hi':i<ops.size:=(Array.getElem?_eq_some_iff.1 ho).1
  have hi2:i<listed.size:=hz ▸ hi'
  have hf:listed[i]=false:=by simpa [hi2] using h1
  refine wpOp_step ho (fun K' hK=>?_)
  have hgd:=(edgesBack_of he ho).1
  have hw:Region.wanted o (yielded ops a.tmps)=true:=by simp [Region.wanted,hgd]
  rw [if_pos hw]
  refine hs i o (by simpa using ho) _ a w hI (by simp [hi2,hf]) (fun e hee hb=>?_) K' (fun a' w' hI'=>hK a' w' (ih _ a' w' (by simpa using hz) ?_ ?_))
  ·have h3:=hed e hee hb
   by_cases hk:e.on<listed.size
   ·simp [hk] at h3 ⊢
    exact h3
   ·simp [Array.getElem?_eq_none (Nat.le_of_not_lt hk)]
  ·have hcs:(listed.setIfInBounds i true).toList.count false+1=listed.toList.count false:=by
    have hm:0<listed.toList.count false:=List.count_pos_iff.2 (by rw [← hf]; exact Array.mem_toList_iff.2 (Array.getElem_mem hi2))
    have e1:(listed.toList[i] == false)=true:=by simp [hf]
    have e2:¬ ((true == false)=true):=by decide
    rw [Array.toList_setIfInBounds,List.count_set (by simpa using hi2),if_pos e1,if_neg e2]
    omega
   omega
  ·have:(fun k=>(listed.setIfInBounds i true).getD k true)=upd (fun k=>listed.getD k true) (0+i):=by
    funext k
    by_cases e:k=i
    ·subst e
     simp [upd,hi2]
    ·simp [upd,e,Array.getElem?_setIfInBounds_ne (Ne.symm e)]
   rw [this]
   exact hI'
theorem ri_start {S:RSpec}{D:List Nat}{B:Nat}{a:Act}{w w':World}{l:Nat→Bool}(hb:Below B w w')(hl0:∀ k,l k=true→S.m≤k)(hl1:∀ k,S.m≤k→l k=true)(hp:(S.pres.drop S.m).all List.isEmpty=true)
  (h0:∀ k,S.m≤k→k<S.n→S.fact k (aT a (S.slot k)) w'):RI S D B w a l a w':=by
 refine ⟨Fr.refl _ _,hb,hl1,fun k hk hl j hj=>?_,fun k hk hl _=>h0 k (hl0 k hl) hk⟩
 have hm:=hl0 k hl
 have:S.pre k = []:=by
  unfold RSpec.pre
  rw [List.getD_eq_getElem?_getD]
  cases hg:S.pres[k]? with
  | none=>rfl
  | some x =>
   have hx:x∈S.pres.drop S.m:=List.mem_iff_getElem?.2 ⟨k - S.m,by rw [List.getElem?_drop,Nat.add_sub_cancel' hm,hg]⟩
   have:=List.all_eq_true.1 hp x hx
   simpa using this
 rw [this] at hj
 cases hj
theorem wp_region_ri {id:Nat}{ops:Array Oper}{a:Act}{w:World}(S:RSpec)(D:List Nat)(B:Nat)(G:Act→Prop)(hm:P.follows .mixedOrders=true)(hn:S.m=ops.size)(he:edgesBack ops=true)(hp:(S.pres.drop S.m).all List.isEmpty=true)(hG:G a)
  (hst:∀ k,k<S.n→StB (S.fact k)) (h0:∀ k,S.m≤k→k<S.n→S.fact k (aT a (S.slot k)) w)
  (hs:∀ a0,G a0→StepsRI P Q S D B w a0 0 ops.toList)
  (hend:∀ a' w',Fr D a a'→Below B w w'→(∀ k,k<S.n→S.kill k = []→S.fact k (aT a' (S.slot k)) w')→Q .normal a' w'):(Code.region id ops true).wp P Q a w:=by
 refine wp_region_any hm (wpAny_ri he (hs a hG) (fun l a' w' hI hl=>hend a' w' hI.fr hI.bel (fun k hk h0=>hI.fact k hk (hl k) (by simp [h0]))) ops.size _ a _ (by simp) (by simp) ?_)
 refine ri_start (Below.refl _ _).drew (fun k hl=>?_) (fun k hk=>?_) hp (fun k h1 h2=>hst k h2 _ _ _ (h0 k h1 h2) (Below.refl _ _).drew)
 ·rw [hn]
  by_cases hk:k<ops.size
  ·simp [hk] at hl
  ·omega
 ·rw [hn] at hk
  simp [Array.getElem?_eq_none (show (Array.replicate ops.size false).size≤k by simpa using hk)]
theorem wpList_rp {ops:Array Oper}{S:RSpec}{D:List Nat}{B:Nat}{w0:World}{a0:Act}(he:edgesBack ops=true)(hs:StepsRI P Q S D B w0 a0 0 ops.toList)
  (hend:∀ l a w,RI S D B w0 a0 l a w→(∀ k,l k=true)→Q .normal a w) :
  ∀ (rest:List Oper) (k:Nat) (a:Act) (w:World),ops.toList.drop k=rest→k≤ops.size→RI S D B w0 a0 (fun j=>decide (j<k∨ops.size≤j)) a w→wpList P ops Q rest a w:=by
 intro rest
 induction rest with
 | nil =>
  intro k a w hd hk hI
  have hl:ops.size≤k:=by
   have:=congrArg List.length hd
   simp at this
   omega
  exact wpList_nil (hend _ _ _ hI (fun j=>by simp; omega))
 | cons o rest ih =>
  intro k a w hd hk hI
  have ho:ops.toList[k]? = some o:=by
   have:=congrArg (fun l=>l[0]?) hd
   simpa using this
  have ho':ops[k]? = some o:=by simpa using ho
  have hlt:k<ops.size:=(Array.getElem?_eq_some_iff.1 ho').1
  refine wpList_plain (edgesBack_of he ho').1 (fun K hK=>?_)
  refine hs k o ho _ a w hI (by simp; omega) (fun e hee hb=>by have:=(edgesBack_of he ho').2 e hee hb; simp; omega) K (fun a' w' hI'=>hK a' w' (ih (k+1) a' w' ?_ hlt ?_))
  ·have:=congrArg (List.drop 1) hd
   simpa [List.drop_drop,Nat.add_comm] using this
  ·have:(fun j=>decide (j<k+1∨ops.size≤j))=upd (fun j=>decide (j<k∨ops.size≤j)) (0+k):=by
    funext j
    simp only [upd,Nat.zero_add]
    by_cases e:j=k
    ·subst e
     simp
    ·have:(j<k+1∨ops.size≤j)↔(j<k∨ops.size≤j):=by omega
     simp only [e,this,decide_false,Bool.false_or]
   rw [this]
   exact hI'
theorem wp_region_rp {id:Nat}{os:List Oper}{a:Act}{w:World}(S:RSpec)(D:List Nat)(B:Nat)(G:Act→Prop)(hn:S.m=os.length)(he:edgesBack os.toArray=true)(hp:(S.pres.drop S.m).all List.isEmpty=true)(hG:G a)
  (_:∀ k,k<S.n→StB (S.fact k)) (h0:∀ k,S.m≤k→k<S.n→S.fact k (aT a (S.slot k)) w)
  (hs:∀ a0,G a0→StepsRI P Q S D B w a0 0 os)
  (hend:∀ a' w',Fr D a a'→Below B w w'→(∀ k,k<S.n→S.kill k = []→S.fact k (aT a' (S.slot k)) w')→Q .normal a' w'):(Code.region id os.toArray false).wp P Q a w:=by
 refine wp_region_lit (wpList_rp he (hs a hG) (fun l a' w' hI hl=>hend a' w' hI.fr hI.bel (fun k hk h0=>hI.fact k hk (hl k) (by simp [h0]))) os 0 a w (by simp) (by simp) ?_)
 refine ri_start (Below.refl _ _) (fun k hl=>?_) (fun k hk=>?_) hp h0
 ·rw [hn]
  simpa using hl
 ·rw [hn] at hk
  simpa using hk
theorem opw_value {o:Oper}{a:Act}{w w':World}{K:Act→World→Prop}(v:Value)(hr:(execOp a.eval o).run P w=.ok (.value v) w')(h:K (a.put o.dst v) w'):o.wp P a w K Q:=by
 unfold Oper.wp
 rw [hr]
 exact h
theorem opw_move {o:Oper}{a:Act}{w:World}{K:Act→World→Prop}(x:Nat)(ho:o.op=.move (.tmp x))(h:K (a.put o.dst (aT a x)) w):o.wp P a w K Q :=
 opw_value (aT a x) (by unfold execOp; rw [ho]; rfl) h
theorem opw_assign {o:Oper}{a:Act}{w:World}{K:Act→World→Prop}(x:Nat)(ho:o.op=.assign (.tmp x))(h:K (a.put o.dst (aT a x)) w):o.wp P a w K Q :=
 opw_value (aT a x) (by unfold execOp; rw [ho]; rfl) h
theorem opw_call {o:Oper}{a:Act}{w:World}{K:Act→World→Prop}(f:FuncId)(ar:Array Operand)(ats:Array TypeId)(fn:Func)(c:Code)(ho:o.op=.call { callee:=.value (.func f),args:=ar,argTypes:=ats })
  (hf : P.funcs[f]? = some fn) (hname : (fn.name == "runtime.NumGoroutine") = false) (hb : fn.body = some c) (args : Array Value) (hargs : ar.map a.eval = args)
  (h:Calls P f args w fun e w'=>∃ v,e=.returned v∧K (a.put o.dst v) w'):o.wp P a w K Q:=by
 have hn2 : ¬ fn.name = "runtime.NumGoroutine" := by simpa using hname
 have hr:(execOp a.eval o).run P w=.ok (.enter f args) w:=by
  unfold execOp
  rw [ho]
  simp [resolve,hargs,Act.eval,Deferred.ofValue,invoke,callFunc,hf,hn2,hb]
 unfold Oper.wp
 rw [hr,Oper.upon_enter]
 refine h.mono fun e w' hh=>?_
 obtain ⟨v,rfl,hk⟩:=hh
 exact hk
theorem opw_field {o:Oper}{a:Act}{w:World}{K:Act→World→Prop}(s:TypeId)(x f:Nat)(ho:o.op=.fieldAddr s (.tmp x) f)(p:Value)(hx:aT a x=p)(v:Value)(hr:(Instr.fieldAt s p f).run P w=.ok v w)(h:K (a.put o.dst v) w):o.wp P a w K Q:=by
 refine opw_value v ?_ h
 have hx':a.eval (.tmp x)=p:=hx
 unfold execOp
 simp [ho,hx',hr]
theorem opw_load1 {o:Oper}{a:Act}{w:World}{K:Act→World→Prop}(t:TypeId)(x:Nat)(ho:o.op=.load t (.tmp x))(p:Value)(hx:aT a x=p)(v:Value)(hr:(Instr.loadAt t p).run P w=.ok v w)(h:K (a.put o.dst v) w):o.wp P a w K Q:=by
 refine opw_value v ?_ h
 have hx':a.eval (.tmp x)=p:=hx
 unfold execOp
 simp [ho,hx',hr]
theorem evc (a:Act)(v:Value):a.eval (.const v)=v:=rfl
theorem ev (a:Act)(t:Nat):a.eval (.tmp t)=aT a t:=rfl
end
open Go Go.RowKit
theorem od {p:Prop}[Decidable p](h:decide p=true):p:=of_decide_eq_true h
theorem RI.pu {S:RSpec}{D:List Nat}{B:Nat}{w0:World}{a0:Act}{l:Nat→Bool}{a:Act}{w:World}(h:RI S D B w0 a0 l a w)(i d:Nat){n:Nat}{v:Value}{w':World}(hz:a0.tmps.size=n)(hli:l i=false)(hB:B≤w0.heap.size)(hst:∀ k,k<S.n→StB (S.fact k))(hb:Below w.heap.size w w')(hf:S.fact i v w')(hok:((S.pre i).isEmpty && D.contains d && Nat.blt d n && (S.slot i == d) && S.free i d)=true:=by rfl):RI S D B w0 a0 (upd l i) (a.put (some d) v) w':=by
 simp only [Bool.and_eq_true,beq_iff_eq,List.isEmpty_iff] at hok
 obtain ⟨⟨⟨⟨h1,h2⟩,h3⟩,h4⟩,h5⟩:=hok
 exact h.put i d h1 h2 (by rw [hz]; exact Eq.mp Nat.blt_eq h3) h4 hli h5 hB hst hb hf
theorem RI.ge {S:RSpec}{D:List Nat}{B:Nat}{w0:World}{a0:Act}{l:Nat→Bool}{a:Act}{w:World}(h:RI S D B w0 a0 l a w)(k:Nat){o:Oper}(he:∀ e∈o.after,Region.binds .any e=true→l e.on=true)(hok:(Nat.blt k S.n && (S.kill k).isEmpty)=true:=by rfl)(hj:(o.after.toList.any fun e=>Region.binds .any e && (e.on == k))=true:=by kernel_rfl):S.fact k (aT a (S.slot k)) w:=by
 simp only [Bool.and_eq_true,List.isEmpty_iff] at hok
 exact h.got k (Eq.mp Nat.blt_eq hok.1) (edge he k hj) hok.2
theorem RI.vo {S:RSpec}{D:List Nat}{B:Nat}{w0:World}{a0:Act}{l:Nat→Bool}{a:Act}{w:World}(h:RI S D B w0 a0 l a w)(k:Nat)(hok:(Nat.blt k S.n && Nat.ble S.m k && (S.kill k).isEmpty)=true:=by rfl):S.fact k (aT a (S.slot k)) w:=by
 simp only [Bool.and_eq_true,List.isEmpty_iff] at hok
 exact h.vot k (Eq.mp Nat.blt_eq hok.1.1) (Nat.le_of_ble_eq_true hok.1.2) hok.2
theorem opw_c1 {P : Program} {Q : Exit → Act → World → Prop} {o : Oper} {a : Act} {w : World} {K : Act → World → Prop} (f : FuncId) (x0 : Nat) {ats : Array TypeId} {fn : Func} {c : Code} {v0 : Value} (hf : P.funcs[f]? = some fn) (h0 : aT a x0 = v0) (h : Calls P f #[v0] w fun e w2 => ∃ v, e = .returned v ∧ K (a.put o.dst v) w2) (ho : o.op = .call { callee := .value (.func f), args := #[.tmp x0], argTypes := ats } := by rfl) (hn : (fn.name == "runtime.NumGoroutine") = false := by kernel_rfl) (hb : fn.body = some c := by rfl) : o.wp P a w K Q :=
 opw_call f _ ats fn c ho hf hn hb _ (by simp [ev,h0]) h
theorem opw_c2 {P : Program} {Q : Exit → Act → World → Prop} {o : Oper} {a : Act} {w : World} {K : Act → World → Prop} (f : FuncId) (x0 x1 : Nat) {ats : Array TypeId} {fn : Func} {c : Code} {v0 v1 : Value} (hf : P.funcs[f]? = some fn) (h0 : aT a x0 = v0) (h1 : aT a x1 = v1) (h : Calls P f #[v0, v1] w fun e w2 => ∃ v, e = .returned v ∧ K (a.put o.dst v) w2) (ho : o.op = .call { callee := .value (.func f), args := #[.tmp x0, .tmp x1], argTypes := ats } := by rfl) (hn : (fn.name == "runtime.NumGoroutine") = false := by kernel_rfl) (hb : fn.body = some c := by rfl) : o.wp P a w K Q :=
 opw_call f _ ats fn c ho hf hn hb _ (by simp [ev,h0,h1]) h
theorem vt2 {m:Nat}{p:Nat→Prop}(h100:p (m+0))(h101:p (m+1)):∀ k,m≤k→k<m+2→p k:=fun k h h2=>by
 rcases (by omega:k=m+0∨k=m+1) with rfl | rfl
 ·exact h100
 ·exact h101
theorem vt3 {m:Nat}{p:Nat→Prop}(h100:p (m+0))(h101:p (m+1))(h102:p (m+2)):∀ k,m≤k→k<m+3→p k:=fun k h h2=>by
 rcases (by omega:k=m+0∨k=m+1∨k=m+2) with rfl | rfl | rfl
 ·exact h100
 ·exact h101
 ·exact h102
theorem vt4 {m:Nat}{p:Nat→Prop}(h100:p (m+0))(h101:p (m+1))(h102:p (m+2))(h103:p (m+3)):∀ k,m≤k→k<m+4→p k:=fun k h h2=>by
 rcases (by omega:k=m+0∨k=m+1∨k=m+2∨k=m+3) with rfl | rfl | rfl | rfl
 ·exact h100
 ·exact h101
 ·exact h102
 ·exact h103
open Go.RowKit
structure TouchX (P:Nat→Prop)(w w':World):Prop where
 os:w'.os=w.os
 tape:w'.tape=w.tape
 output:w'.output=w.output
 size:w.heap.size≤w'.heap.size
 block:∀ k,k<w.heap.size→¬ P k→w'.heap[k]? = w.heap[k]?
theorem Touch.toX {lo hi:Nat}{w w':World}(h:Touch lo hi w w'):TouchX (fun k=>lo≤k∧k<hi) w w':=⟨h.os,h.tape,h.output,h.size,fun k hk hn=>h.block k hk (by have:¬ (lo≤k∧k<hi):=hn; omega)⟩
theorem TouchX.of_below {P:Nat→Prop}{w w':World}(h:Below w.heap.size w w'):TouchX P w w':=⟨h.os,h.tape,h.output,h.size,fun k hk _=>h.block k hk⟩
theorem touchX_g {w w':World}{row:Option Nat}{P:Nat→Prop}(hg:w.grownBy w' row)(hr:∀ k,row=some k→P k):TouchX P w w' :=
 ⟨hg.os,hg.tape,hg.output,hg.size,fun k hk hn=>hg.block k hk (fun e=>hn (hr k e.symm))⟩
theorem ownsRow_moveX {P S:Nat→Prop}{B e size n:Nat}{w w':World}{v:Value}{xs:List Value}(h:w.ownsRow B e size v n xs)(hS:∀ k,v.ownBlock=some k→S k)(hd:∀ k,S k→¬ P k)(ht:TouchX P w w'):w'.ownsRow B e size v n xs:=by
 refine ⟨h.1,?_⟩
 rcases h.2 with hn | ⟨g,cap,cur,rfl,hbb,hgg,rest⟩
 ·exact .inl hn
 ·exact .inr ⟨g,cap,cur,rfl,hbb,(ht.block g (Array.getElem?_eq_some_iff.1 hgg).1 (hd g (hS g rfl))).trans hgg,rest⟩
open Go.RowKit
def wordB (c:Int):Prop:=(97≤c∧c≤122)∨(48≤c∧c≤57)
def labB (c:Int):Prop:=wordB c∨c=45
def allB (P:Int→Prop)(s:ByteArray)(k:Nat):Prop:=∀ j,j<k→P (cAt s j)
def labP (s:ByteArray):Prop:=(1≤s.size∧s.size≤20)∧(cAt s 0≠45∧cAt s (s.size - 1)≠45)∧allB labB s s.size
theorem allB_succ {P:Int→Prop}{s:ByteArray}{k:Nat}(h:allB P s k)(h1:P (cAt s k)):allB P s (k+1):=fun j hj=>by
 by_cases e:j=k
 ·rw [e]; exact h1
 ·exact h j (by omega)
theorem isWordByte_any (x:Int)(w:World):Calls Tryz.prog 216 #[.int .u8 x] w (SaysW (wordB x) w):=by
 have hc:(97≤x∧x≤122)∨(97≤x∧122<x∧48≤x∧57<x)∨(x<97∧48≤x∧x≤57)∨(x<97∧48≤x∧57<x)∨(x<97∧x<48):=by omega
 rcases hc with ⟨h1,h2⟩ | ⟨h1,h2,h3,h4⟩ | ⟨h1,h2,h3⟩ | ⟨h1,h2,h3⟩ | ⟨h1,h2⟩
 ·have HN:Hid (wordB x):=.inl ⟨h1,h2⟩
  go_enter Tryz.func216,Tryz.ntmps216
  go_wp2
  go_ret
  exact saysW_t HN.out
 ·have HN:Hid (¬ wordB x):=fun h=>by unfold wordB at h; omega
  have z1:decide (x≤122)=false:=decide_eq_false (by omega)
  have z2:decide (x≤57)=false:=decide_eq_false (by omega)
  go_enter Tryz.func216,Tryz.ntmps216
  go_wp2
  go_ret
  exact saysW_f HN.out
 ·have HN:Hid (wordB x):=.inr ⟨h2,h3⟩
  go_enter Tryz.func216,Tryz.ntmps216
  go_wp2
  go_ret
  exact saysW_t HN.out
 ·have HN:Hid (¬ wordB x):=fun h=>by unfold wordB at h; omega
  have z2:decide (x≤57)=false:=decide_eq_false (by omega)
  go_enter Tryz.func216,Tryz.ntmps216
  go_wp2
  go_ret
  exact saysW_f HN.out
 ·have HN:Hid (¬ wordB x):=fun h=>by unfold wordB at h; omega
  go_enter Tryz.func216,Tryz.ntmps216
  go_wp2
  go_ret
  exact saysW_f HN.out
theorem isLabelByte_any (x:Int)(w:World):Calls Tryz.prog 232 #[.int .u8 x] w (SaysW (labB x) w):=by
 go_enter Tryz.func232,Tryz.ntmps232
 go_wp2_with fail
 refine (isWordByte_any x _).mono ?_
 rintro e w1 ⟨b,rfl,HV,rfl⟩
 cases b with
 | true =>
  have HN:Hid (labB x):=.inl (HV.out.1 rfl)
  clear HV
  go_wp2
  go_ret
  exact saysW_t HN.out
 | false =>
  by_cases h:x=45
  ·have HN:Hid (labB x):=.inr h
   have z:(x == 45)=true:=beq_iff_eq.2 h
   clear HV h
   go_wp2
   go_ret
   exact saysW_t HN.out
  ·have HN:Hid (¬ labB x):=fun q=>by
    rcases q with q | q
    ·exact Bool.false_ne_true (HV.out.2 q)
    ·exact h q
   have z:(x == 45)=false:=beq_false_of_ne h
   clear HV h
   go_wp2
   go_ret
   exact saysW_f HN.out
theorem everyLabel_any (s:ByteArray)(w:World)(hs:s.size≤1048576) :
  Calls Tryz.prog 186 #[.string s,.func (Fn.func 232) #[] #[]] w (SaysW (allB labB s s.size) w):=by
 go_enter Tryz.func186,Tryz.ntmps186
 go_wp2
 go_loopw [5] (fun i wr=>∃ k:Nat,k≤s.size∧i=.int .i64 k∧Hid (allB labB s k)∧w=wr) (fun i _=>s.size - (intOf i).toNat)
 case atStart=>exact ⟨0,Nat.zero_le _,rfl,(fun j hj=>absurd hj (Nat.not_lt_zero _)),rfl⟩
 case round =>
  obtain ⟨k,hk,rfl,HP,rfl⟩:=hrel
  by_cases hlt:k<s.size
  ·have HX:Hid (cAt s k=(s[k].toNat:Int)):=cAt_get s k hlt
   go_wp2_with fail
   refine (isLabelByte_any _ _).mono ?_
   rintro e w1 ⟨b,rfl,HV,rfl⟩
   cases b with
   | false =>
    have HN:Hid (¬ allB labB s s.size):=fun h=>Bool.false_ne_true (HV.out.2 (by rw [← HX.out]; exact h k hlt))
    clear HV HP
    go_wp2
    go_ret
    exact saysW_f HN.out
   | true =>
    have HN:Hid (allB labB s (k+1)):=allB_succ HP.out (by rw [HX.out]; exact HV.out.1 rfl)
    clear HP HV
    go_wp2
    go_roundw
    case rel=>exact ⟨k+1,by omega,by go_num,HN,by trivial⟩
    case measure=>simp [intOf]; omega
  ·obtain rfl:k=s.size:=by omega
   go_wp2
   go_ret
   exact saysW_t HP.out
theorem wordLabel_any (s:ByteArray)(w:World)(hs:s.size≤1048576) :
  Calls Tryz.prog 215 #[.string s,.int .i64 20,.func (Fn.func 232) #[] #[]] w (SaysW ((1≤s.size∧s.size≤20)∧allB labB s s.size) w):=by
 obtain ⟨P,hP⟩:∃ P:Prop,P=((1≤s.size∧s.size≤20)∧allB labB s s.size):=⟨_,rfl⟩
 rw [← hP]
 have HP:Hid (P=((1≤s.size∧s.size≤20)∧allB labB s s.size)):=hP
 clear hP
 rcases Nat.eq_zero_or_pos s.size with h0 | h0
 ·have HN:Hid (¬ P):=fun h=>by rw [HP.out] at h; omega
  have z:s.toList.isEmpty=true:=by
   rw [ByteArray.toList_eq]
   have:s.data.toList = []:=List.eq_nil_of_length_eq_zero (by simpa using h0)
   rw [this]
   rfl
  clear h0
  go_enter Tryz.func215,Tryz.ntmps215
  go_wp2
  go_ret
  exact saysW_f HN.out
 ·have z:s.toList.isEmpty=false:=by
   rw [ByteArray.toList_eq]
   cases hl:s.data.toList with
   | nil =>
        have:s.data.toList.length=0:=by rw [hl]; rfl
        simp at this
        have h2:s.size=0:=by rw [this]; rfl
        omega
   | cons _ _=>rfl
  by_cases h20:(s.size:Int)≤20
  ·go_enter Tryz.func215,Tryz.ntmps215
   go_wp2_with fail
   refine (everyLabel_any s _ hs).mono ?_
   rintro e w1 ⟨b,rfl,HV,rfl⟩
   cases b with
   | true =>
    have HN:Hid P:=by show P; rw [HP.out]; exact ⟨⟨by omega,by omega⟩,HV.out.1 rfl⟩
    clear HV
    go_wp2
    go_ret
    exact saysW_t HN.out
   | false =>
    have HN:Hid (¬ P):=fun h=>by rw [HP.out] at h; exact Bool.false_ne_true (HV.out.2 h.2)
    clear HV
    go_wp2
    go_ret
    exact saysW_f HN.out
  ·have HN:Hid (¬ P):=fun h=>by rw [HP.out] at h; omega
   go_enter Tryz.func215,Tryz.ntmps215
   go_wp2
   go_ret
   exact saysW_f HN.out
open Go.RowKit
theorem labelOk_any (s:ByteArray)(w:World)(hs:s.size≤1048576):Calls Tryz.prog 223 #[.string s] w (SaysW (labP s) w):=by
 go_enter Tryz.func223,Tryz.ntmps223
 go_wp2_with fail
 refine (wordLabel_any s _ hs).mono ?_
 rintro e w1 ⟨b,rfl,HV,rfl⟩
 cases b with
 | false =>
  have HN:Hid (¬ labP s):=fun h=>Bool.false_ne_true (HV.out.2 ⟨h.1,h.2.2⟩)
  clear HV
  go_wp2
  go_ret
  exact saysW_f HN.out
 | true =>
  have hV:=HV.out.1 rfl
  have HO:Hid ((1≤s.size∧s.size≤20)∧allB labB s s.size):=hV
  obtain ⟨⟨h1,h2⟩,_⟩:=hV
  obtain ⟨m,hm⟩:∃ m:Nat,s.size=m+1:=⟨s.size - 1,by omega⟩
  have h0:0<s.size:=by omega
  have hl:m<s.size:=by omega
  have x0:=cAt_get s 0 h0
  have x1:=cAt_get s m hl
  have HM:Hid (s.size - 1=m):=by show _=_; omega
  have e1:(s.size:Int) - 1=(m:Int):=by omega
  clear HV
  by_cases c0:(s[0].toNat:Int)=45
  ·have HN:Hid (¬ labP s):=fun h=>h.2.1.1 (by rw [x0]; exact c0)
   have z0:((s[0].toNat:Int) != 45)=false:=by simp [c0]
   clear c0 x0 x1 hm
   go_wp2
   go_ret
   exact saysW_f HN.out
  ·have z0:((s[0].toNat:Int) != 45)=true:=bne_iff_ne.2 c0
   by_cases c1:(s[m].toNat:Int)=45
   ·have HN:Hid (¬ labP s):=fun h=>h.2.1.2 (by rw [HM.out,x1]; exact c1)
    have z1:((s[m].toNat:Int) != 45)=false:=by simp [c1]
    clear c0 c1 x0 x1 hm
    go_wp2
    go_ret
    exact saysW_f HN.out
   ·have HN:Hid (labP s):=⟨HO.out.1,⟨by rw [x0]; exact c0,by rw [HM.out,x1]; exact c1⟩,HO.out.2⟩
    have z1:((s[m].toNat:Int) != 45)=true:=bne_iff_ne.2 c1
    clear c0 c1 x0 x1 hm
    go_wp2
    go_ret
    exact saysW_t HN.out
open Go.RowKit
theorem l6Label_any (s:ByteArray)(w:World):Calls Tryz.prog 205 #[.string s] w (SaysW (labP s) w):=by
 by_cases c1:(s.size:Int)<1
 ·have HN:Hid (¬ labP s):=fun h=>by have:=h.1.1; omega
  go_enter Tryz.func205,Tryz.ntmps205
  go_wp2
  go_ret
  exact saysW_f HN.out
 by_cases c2:20<(s.size:Int)
 ·have HN:Hid (¬ labP s):=fun h=>by have:=h.1.2; omega
  go_enter Tryz.func205,Tryz.ntmps205
  go_wp2
  go_ret
  exact saysW_f HN.out
 obtain ⟨m,hm⟩:∃ m:Nat,s.size=m+1:=⟨s.size - 1,by omega⟩
 have h0:0<s.size:=by omega
 have hl:m<s.size:=by omega
 have x0:=cAt_get s 0 h0
 have x1:=cAt_get s m hl
 have HM:Hid (s.size - 1=m):=by show _=_; omega
 have e1:(s.size:Int) - 1=(m:Int):=by omega
 clear hm
 by_cases c3:(s[0].toNat:Int)=45
 ·have HN:Hid (¬ labP s):=fun h=>h.2.1.1 (by rw [x0]; exact c3)
  have z0:((s[0].toNat:Int) == 45)=true:=beq_iff_eq.2 c3
  clear c3 x0 x1
  go_enter Tryz.func205,Tryz.ntmps205
  go_wp2
  go_ret
  exact saysW_f HN.out
 have z0:((s[0].toNat:Int) == 45)=false:=beq_false_of_ne c3
 by_cases c4:(s[m].toNat:Int)=45
 ·have HN:Hid (¬ labP s):=fun h=>h.2.1.2 (by rw [HM.out,x1]; exact c4)
  have z1:((s[m].toNat:Int) == 45)=true:=beq_iff_eq.2 c4
  clear c3 c4 x0 x1
  go_enter Tryz.func205,Tryz.ntmps205
  go_wp2
  go_ret
  exact saysW_f HN.out
 have z1:((s[m].toNat:Int) == 45)=false:=beq_false_of_ne c4
 have HO:Hid ((1≤s.size∧s.size≤20)∧(cAt s 0≠45∧cAt s (s.size - 1)≠45)):=⟨⟨by omega,by omega⟩,by rw [x0]; exact c3,by rw [HM.out,x1]; exact c4⟩
 clear c3 c4 x0 x1
 go_enter Tryz.func205,Tryz.ntmps205
 go_wp2
 clear e1
 go_loopw [3] (fun i wr=>∃ k:Nat,k≤s.size∧i=.int .i64 k∧Hid (allB labB s k)∧w=wr) (fun i _=>s.size - (intOf i).toNat)
 case atStart=>exact ⟨0,Nat.zero_le _,rfl,(fun j hj=>absurd hj (Nat.not_lt_zero _)),rfl⟩
 case round =>
  obtain ⟨k,hk,rfl,HP,rfl⟩:=hrel
  by_cases hlt:k<s.size
  ·have hx:=cAt_get s k hlt
   have GOOD:Hid (labB (s[k].toNat:Int)→allB labB s (k+1)):=fun h=>allB_succ HP.out (by rw [hx]; exact h)
   have BAD:Hid (¬ labB (s[k].toNat:Int)→¬ labP s):=fun h q=>h (by rw [← hx]; exact q.2.2 k hlt)
   clear HP hx
   by_cases hb:labB (s[k].toNat:Int)
   ·have HN:Hid (allB labB s (k+1)):=GOOD.out hb
    have hc:(97≤(s[k].toNat:Int)∧(s[k].toNat:Int)≤122)∨((s[k].toNat:Int)<97∧48≤(s[k].toNat:Int)∧(s[k].toNat:Int)≤57)∨((s[k].toNat:Int)<97∧(s[k].toNat:Int)<48∧((s[k].toNat:Int) == 45)=true):=by
     rcases hb with (hb | hb) | hb
     ·exact .inl hb
     ·exact .inr (.inl ⟨by omega,hb.1,hb.2⟩)
     ·exact .inr (.inr ⟨by omega,by omega,beq_iff_eq.2 hb⟩)
    clear GOOD BAD hb
    rcases hc with ⟨q1,q2⟩ | ⟨q1,q2,q3⟩ | ⟨q1,q2,q3⟩
    all_goals
     go_wp2
     go_roundw
     case rel=>exact ⟨k+1,by omega,by go_num,HN,by trivial⟩
     case measure=>simp [intOf]; omega
   ·have HN:Hid (¬ labP s):=BAD.out hb
    have z5:((s[k].toNat:Int) == 45)=false:=beq_false_of_ne (fun h=>hb (.inr h))
    have hc:(97≤(s[k].toNat:Int)∧decide ((s[k].toNat:Int)≤122)=false∧48≤(s[k].toNat:Int)∧decide ((s[k].toNat:Int)≤57)=false)∨((s[k].toNat:Int)<97∧48≤(s[k].toNat:Int)∧decide ((s[k].toNat:Int)≤57)=false)∨((s[k].toNat:Int)<97∧(s[k].toNat:Int)<48):=by
     unfold labB wordB at hb
     by_cases q:97≤(s[k].toNat:Int)
     ·exact .inl ⟨q,decide_eq_false (by omega),by omega,decide_eq_false (by omega)⟩
     ·by_cases q2:48≤(s[k].toNat:Int)
      ·exact .inr (.inl ⟨by omega,q2,decide_eq_false (by omega)⟩)
      ·exact .inr (.inr ⟨by omega,by omega⟩)
    clear GOOD BAD hb
    rcases hc with ⟨q1,q2,q3,q4⟩ | ⟨q1,q2,q3⟩ | ⟨q1,q2⟩
    all_goals
     go_wp2
     go_ret
     exact saysW_f HN.out
  ·obtain rfl:k=s.size:=by omega
   have HN:Hid (labP s):=⟨HO.out.1,HO.out.2,HP.out⟩
   clear HP
   go_wp2
   go_ret
   exact saysW_t HN.out
open Go.RowKit
theorem cell_one_newS (w:World)(x:Value)(t:TypeId):∀ j u,[x][j]? = some u→(w.alloc (.cells #[x] t)).cell? ((⟨w.heap.size,0,none⟩:Addr).add j)=some u:=by
 intro j u h
 rw [Addr.add_lit,cell_of_row _ w.heap.size (0+j) _ t (0,0) (heap_alloc_new w _)]
 simpa using h
theorem ownsS_slice {B:Nat}{w:World}{v:Value}{n:Nat}{xs:List Value}(h:w.ownsRow B 9 1 v n xs):∃ a cap,v=.slice a n cap:=by
 rcases h.2 with ⟨rfl,rfl⟩ | ⟨g,cap,cur,rfl,_⟩
 ·exact ⟨_,_,rfl⟩
 ·exact ⟨_,_,rfl⟩
theorem below_appS {B:Nat}{w0 w w1:World}{v:Value}{n:Nat}{xs:List Value}(hb:Below B w0 w)(hB:B≤w.heap.size)(h:w.ownsRow B 9 1 v n xs)(hg:w.grownBy w1 v.ownBlock):Below B w0 w1 :=
 hb.grown hg hB (fun k hk=>(h.lt k hk).1)
theorem Tryz.info9:(Tryz.prog.info? 9).map (fun i=>(i.zero,i.size,i.bytes))=some (some (.string ByteArray.empty),1,16):=by kernel_rfl
structure Strs (B:Nat)(w:World)(a:Option Addr)(n cap:Nat)(L:List ByteArray):Prop where
 row:w.ownsRow B 9 1 (.slice a n cap) n (L.map Value.string)
theorem Strs.len {B:Nat}{w:World}{a:Option Addr}{n cap:Nat}{L:List ByteArray}(h:Strs B w a n cap L):L.length=n:=by simpa using h.row.1
theorem Strs.caps {B:Nat}{w:World}{a:Option Addr}{n cap:Nat}{L:List ByteArray}(h:Strs B w a n cap L):n≤cap∧cap≤9223372036854775807:=by
 rcases h.row.2 with ⟨hv,h0⟩ | ⟨g,cap',cur,hv,_,_,h1,h2,_⟩
 ·simp only [Value.slice.injEq] at hv
  omega
 ·simp only [Value.slice.injEq] at hv
  unfold maxLen at h2
  omega
theorem Strs.get {B:Nat}{w:World}{a:Option Addr}{n cap:Nat}{L:List ByteArray}(h:Strs B w a n cap L)(hn:0<n):∃ g,a=some ⟨g,0,none⟩∧g<w.heap.size∧∀ k,k<n→w.cell? ⟨g,k,none⟩=some (.string (L.getD k ByteArray.empty)):=by
 have hl:=h.len
 rcases h.row.2 with ⟨_,h0⟩ | ⟨g,cap',cur,hv,hb,hg,r⟩
 ·omega
 ·simp only [Value.slice.injEq] at hv
  obtain ⟨rfl,_,rfl⟩:=hv
  refine ⟨g,rfl,(Array.getElem?_eq_some_iff.1 hg).1,fun k hk=>?_⟩
  rw [World.ownsRow.cellAt h.row k (by omega)]
  simp [show k<L.length by omega]
theorem ret_shaped_and {H:Type}{enc:TypeId × Value→H}{a:Assume}{C:Checked}{os:Os}{f:FuncId}{fn:Func}{s:ChangeSpec}{conds:List PathCond}{apart fresh handsOn again:Bool}{X:World→Array Value→Prop}
  (hX:∀ (w w':World) (args:Array Value),w.heap=w'.heap→X w args→X w' args)
  (own:ownKnob C.prog.godebug=none) (started:os.Started) (noInit:C.prog.inits.idxOf? f=none) (hfn:C.prog.funcs[f]? = some fn)
  (witness:∃ (w:World) (tape:Tape) (i:Input),w.os=os∧(w.forCall tape i).Shaped C.prog∧i.vars = []∧Input.okWide C.prog (w.forCall tape i) .any w.heap.size f i ∧
   ((s.pre enc C.prog fn conds apart (w.forCall tape i).memory i.args∧X (w.forCall tape i).memory i.args)∧sizedMet enc C.prog fn (OpenSpec.ofChange s) apart (w.forCall tape i).memory i.args)∧a.holds C.prog (lone (Frame.enter C.prog f i.args .normal) [] (w.forCall tape i)))
  (contract:∀ (W:World) (base:Nat) (args:Array Value) (ds gs:List (DataW H)) (before:List MemPlace),
   (∀ (j:Nat) t v,fn.params[j]? = some t→args[j]? = some v→Value.okWide C.prog W .any base t v) →
   DataW.Whole enc C.prog fn.params.toList s.vars apart W args.toList ds gs before →
   X W args→W.ShapedOpen C.prog →
   Calls C.prog f args W fun e W'=>∃ v,e=.returned v∧s.post enc C.prog fn apart fresh handsOn again W args v W') :
  ReturnsInHanded a C os f .any (fun w args=>(s.pre enc C.prog fn conds apart w args∧X w args)∧sizedMet enc C.prog fn (OpenSpec.ofChange s) apart w args) (s.post enc C.prog fn apart fresh handsOn again):=by
 refine returnsInHanded_of_calls own started noInit witness ?_
 intro w tape i _ hsh _ hok hpre _
 obtain ⟨_,_,_,fn',hfn',_,_,_,_,hval⟩:=hok
 have e:fn'=fn:=Option.some.inj (hfn'.symm.trans hfn)
 subst e
 obtain ⟨⟨⟨ds,gs,before,hw,_⟩,hx⟩,_⟩:=hpre
 have hw':=DataW.Whole.of_heap (w':=w.forCall tape i) (by rfl) hw
 refine (contract (w.forCall tape i) w.heap.size i.args ds gs before hval hw' (hX _ _ _ (by rfl) hx) hsh).mono fun e W' ⟨v,he,hp⟩=>?_
 subst he
 exact ChangeSpec.post_blind hp
end Go.Proofs.YtmdfbnlgfhjnoaaGreatDoor
