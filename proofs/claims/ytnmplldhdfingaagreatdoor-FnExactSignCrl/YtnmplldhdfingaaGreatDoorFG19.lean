import Derived.Test.YtnmplldhdfingaaGreatDoorFG06
import Derived.Test.YtnmplldhdfingaaGreatDoorFG15
import Derived.Test.YtnmplldhdfingaaGreatDoorFG18
set_option maxRecDepth 10000
set_option maxHeartbeats 8000000
set_option linter.unusedVariables false
namespace Go.Proofs.YtnmplldhdfingaaGreatDoor
open Go.RowKit
section
variable {P:Program} {Q:Exit→Act→World→Prop}
def StepsG (P:Program)(Q:Exit→Act→World→Prop)(I:(Nat→Bool)→Act→World→Prop)(i:Nat)(os:List Oper):Prop :=
 ∀ k o,os[k]? = some o→∀ (l:Nat→Bool) (a:Act) (w:World),I l a w→l (i+k)=false→(∀ e∈o.after,Region.binds .any e=true→l e.on=true)→∀ K':Act→World→Prop,Hid (∀ a w,I (upd l (i+k)) a w→K' a w)→o.wp P a w K' Q
theorem StepsG.nil {I:(Nat→Bool)→Act→World→Prop}{i:Nat}:StepsG P Q I i []:=fun k o h=>by simp at h
theorem StepsG.cons {I:(Nat→Bool)→Act→World→Prop}{i:Nat}{o:Oper}{os:List Oper}
  (h:∀ (l:Nat→Bool) (a:Act) (w:World),I l a w→l i=false→(∀ e∈o.after,Region.binds .any e=true→l e.on=true)→∀ K':Act→World→Prop,Hid (∀ a w,I (upd l i) a w→K' a w)→o.wp P a w K' Q)
  (hs:StepsG P Q I (i+1) os):StepsG P Q I i (o::os):=fun k o' hk=>by
 cases k with
 | zero =>
  simp only [List.getElem?_cons_zero,Option.some.injEq] at hk
  subst hk
  exact h
 | succ k =>
  simp only [List.getElem?_cons_succ] at hk
  have:=hs k o' hk
  rwa [Nat.add_right_comm] at this
theorem wpAny_gi {ops:Array Oper}{I:(Nat→Bool)→Act→World→Prop}(he:edgesBack ops=true)(hs:StepsG P Q I 0 ops.toList)
  (hend:∀ l a w,I l a w→(∀ k,l k=true)→Q .normal a w) :
  ∀ (fuel:Nat) (listed:Array Bool) (a:Act) (w:World),listed.size=ops.size→listed.toList.count false≤fuel→I (fun k=>listed.getD k true) a w→wpAny P .any ops Q fuel listed a w:=by
 have full:∀ listed:Array Bool,listed.size=ops.size→(∀ k,k<ops.size→listed.getD k false=true)→∀ k,listed.getD k true=true:=fun listed hz h k=>by
  by_cases hk:k<listed.size
  ·have:=h k (hz ▸ hk)
   simp [hk] at this ⊢
   exact this
  ·simp [Array.getElem?_eq_none (Nat.le_of_not_lt hk)]
 intro fuel
 induction fuel with
 | zero =>
  intro listed a w hz hc hI
  have hall:∀ k,k<ops.size→listed.getD k false=true:=fun k hk=>by
   have hk':k<listed.size:=hz ▸ hk
   have h0:listed.toList.count false=0:=Nat.le_zero.1 hc
   have:=List.count_eq_zero.1 h0
   cases hv:listed[k] with
   | true=>simp [hk',hv]
   | false=>exact absurd (by rw [← hv]; exact Array.mem_toList_iff.2 (Array.getElem_mem hk')) this
  have hr:Region.ready .any ops listed = []:=by
   refine List.eq_nil_iff_forall_not_mem.2 (fun i hi=>?_)
   obtain ⟨h1,o,ho,_⟩:=mem_ready.1 hi
   have hi':i<ops.size:=(Array.getElem?_eq_some_iff.1 ho).1
   have h2:=hall i hi'
   have hi2:i<listed.size:=hz ▸ hi'
   simp [hi2] at h1 h2
   rw [h1] at h2
   cases h2
  exact ⟨hr,hend _ _ _ hI (full _ hz hall)⟩
 | succ fuel ih =>
  intro listed a w hz hc hI
  refine ⟨fun hr=>hend _ _ _ hI (full _ hz (all_listed he hz hr)),fun i hi=>?_⟩
  obtain ⟨h1,o,ho,hed⟩:=mem_ready.1 hi
  have hi':i<ops.size:=(Array.getElem?_eq_some_iff.1 ho).1
  have hi2:i<listed.size:=hz ▸ hi'
  have hf:listed[i]=false:=by simpa [hi2] using h1
  refine wpOp_step ho (fun K' hK=>?_)
  have hgd:=(edgesBack_of he ho).1
  have hw:Region.wanted o (yielded ops a.tmps)=true:=by simp [Region.wanted,hgd]
  rw [if_pos hw]
  refine hs i o (by simpa using ho) _ a w hI (by simp [hi2,hf]) (fun e hee hb=>?_) K' (fun a' w' hI'=>hK a' w' (ih _ a' w' (by simpa using hz) ?_ ?_))
  ·have h3:=hed e hee hb
   by_cases hk:e.on<listed.size
   ·simp [hk] at h3 ⊢
    exact h3
   ·simp [Array.getElem?_eq_none (Nat.le_of_not_lt hk)]
  ·have hcs:(listed.setIfInBounds i true).toList.count false+1=listed.toList.count false:=by
    have hm:0<listed.toList.count false:=List.count_pos_iff.2 (by rw [← hf]; exact Array.mem_toList_iff.2 (Array.getElem_mem hi2))
    have e1:(listed.toList[i] == false)=true:=by simp [hf]
    have e2:¬ ((true == false)=true):=by decide
    rw [Array.toList_setIfInBounds,List.count_set (by simpa using hi2),if_pos e1,if_neg e2]
    omega
   omega
  ·have:(fun k=>(listed.setIfInBounds i true).getD k true)=upd (fun k=>listed.getD k true) (0+i):=by
    funext k
    by_cases e:k=i
    ·subst e
     simp [upd,hi2]
    ·simp [upd,e,Array.getElem?_setIfInBounds_ne (Ne.symm e)]
   rw [this]
   exact hI'
theorem wp_region_gi {id:Nat}{ops:Array Oper}{a:Act}{w:World}(I:(Nat→Bool)→Act→World→Prop)(hm:P.follows .mixedOrders=true)(he:edgesBack ops=true)
  (h0:∀ l:Nat→Bool,(∀ k,k<ops.size→l k=false)→(∀ k,ops.size≤k→l k=true)→I l a w.drew)
  (hs:StepsG P Q I 0 ops.toList)
  (hend:∀ l a' w',I l a' w'→(∀ k,l k=true)→Q .normal a' w'):(Code.region id ops true).wp P Q a w:=by
 refine wp_region_any hm (wpAny_gi he hs hend ops.size _ a _ (by simp) (by simp) (h0 _ (fun k hk=>by simp [hk]) (fun k hk=>?_)))
 simp [Array.getElem?_eq_none (show (Array.replicate ops.size false).size≤k by simpa using hk)]
theorem wp_region_gj {id:Nat}{ops:Array Oper}{a:Act}{w:World}(I:Act→(Nat→Bool)→Act→World→Prop)(G:Act→Prop)(hm:P.follows .mixedOrders=true)(he:edgesBack ops=true)(hG:G a)
  (h0:∀ a0,G a0→∀ l:Nat→Bool,(∀ k,k<ops.size→l k=false)→(∀ k,ops.size≤k→l k=true)→I a0 l a0 w.drew)
  (hs:∀ a0,G a0→StepsG P Q (I a0) 0 ops.toList)
  (hend:∀ l a' w',I a l a' w'→(∀ k,l k=true)→Q .normal a' w'):(Code.region id ops true).wp P Q a w :=
 wp_region_gi (I a) hm he (h0 a hG) (hs a hG) hend
end
theorem RI.putq {S:RSpec}{D:List Nat}{B:Nat}{w0:World}{a0:Act}{l:Nat→Bool}{a:Act}{w:World}(h:RI S D B w0 a0 l a w)(i d:Nat){v:Value}{w':World}(hpre:∀ j∈S.pre i,l j=true)
  (hd:D.contains d=true) (hs:d<a0.tmps.size) (hsl:S.slot i=d) (hli:l i=false) (hne:S.free i d=true) (hB:B≤w0.heap.size)
  (hst:∀ k,k<S.n→StB (S.fact k)) (hb:Below w.heap.size w w') (hf:S.fact i v w'):RI S D B w0 a0 (upd l i) (a.put (some d) v) w':=by
 refine ⟨h.fr.put (List.contains_iff_mem.1 hd) v,h.bel.trans (hb.mono (Nat.le_trans hB h.bel.size)),fun k hk=>upd_mono (h.vt k hk),fun k hk hl j hj=>?_,fun k hk hl hkill=>?_⟩
 ·by_cases e:k=i
  ·subst e
   exact upd_mono (hpre j hj)
  ·rw [upd_ne e] at hl
   exact upd_mono (h.cl k hk hl j hj)
 ·by_cases e:k=i
  ·subst e
   rw [hsl,aT_put_eq (by rw [h.fr.size]; exact hs)]
   exact hf
  ·rw [upd_ne e] at hl
   have hsk:S.slot k≠d:=fun e2=>by
    have:=h.cl k hk hl i (S.free_of hne hk e e2)
    rw [hli] at this
    cases this
   rw [aT_put_ne (Ne.symm hsk)]
   exact hst k hk _ _ _ (h.fact k hk hl (fun j hj=>of_upd (hkill j hj))) hb
open Go.RowKit
def scv (sc x h n:Int):Value:=.agg #[.int .i64 sc,.int .u64 x,.int .i64 h,.int .i64 n]
theorem treeKeyOf_any (sc x h n:Int)(w:World) :
  Calls Tryz.prog 192 #[scv sc x h n] w fun e w'=>e=.returned (tkv x h n)∧Below w.heap.size w w':=by
 have HB:Hid (_):=(two_blocks w (.cells #[.int .i64 sc,.int .u64 x,.int .i64 h,.int .i64 n] 39) (.cells #[.int .u64 x,.int .i64 h,.int .i64 n] 87)).2
 unfold scv tkv
 go_enter Tryz.func192,Tryz.ntmps192
 go_wp2
 try simp only [Exit.inBlock,Exit.then]
 exact bodyPost_ret (results_tk rfl _ (w.heap.size+1) rfl _ _ _ _ HB.out) rfl ⟨rfl,two_below _ _ _⟩
theorem l8Tree_any (sc x h n:Int)(w:World) :
  Calls Tryz.prog 48 #[scv sc x h n] w fun e w'=>e=.returned (tkv x h n)∧Below w.heap.size w w':=by
 have HB:Hid (_):=(two_blocks w (.cells #[.int .i64 sc,.int .u64 x,.int .i64 h,.int .i64 n] 39) (.cells #[.int .u64 x,.int .i64 h,.int .i64 n] 87)).2
 unfold scv tkv
 go_enter Tryz.func48,Tryz.ntmps48
 go_wp2
 try simp only [Exit.inBlock,Exit.then]
 exact bodyPost_ret (results_tk rfl _ (w.heap.size+1) rfl _ _ _ _ HB.out) rfl ⟨rfl,two_below _ _ _⟩
theorem schemeOf_1 (w:World):Calls Tryz.prog 105 #[.int .i64 1] w fun e w'=>e=.returned (.tuple #[.iface 166 (.agg #[]),.bool true])∧w'=w:=by
 go_enter Tryz.func105,Tryz.ntmps105
 go_wp2
 go_ret2
 exact ⟨rfl,rfl⟩
theorem schemeOf_2 (w:World):Calls Tryz.prog 105 #[.int .i64 2] w fun e w'=>e=.returned (.tuple #[.iface 167 (.agg #[]),.bool true])∧w'=w:=by
 go_enter Tryz.func105,Tryz.ntmps105
 go_wp2
 go_ret2
 exact ⟨rfl,rfl⟩
theorem schemeOf_o (k:Int)(w:World)(h1:k≠1)(h2:k≠2):Calls Tryz.prog 105 #[.int .i64 k] w fun e w'=>e=.returned (.tuple #[.nilIface,.bool false])∧w'=w:=by
 have z1:(k == 1)=false:=beq_false_of_ne h1
 have z2:(k == 2)=false:=beq_false_of_ne h2
 clear h1 h2
 go_enter Tryz.func105,Tryz.ntmps105
 go_wp2
 go_ret2
 exact ⟨rfl,rfl⟩
def grpP (x h n:Int):Prop:=(1≤x∧x≤500000002)∧h=0∧n=0
instance (x h n:Int):Decidable (grpP x h n):=by unfold grpP; infer_instance
theorem wrap_big {x:Int}(hx:U64 x)(hb:¬ x≤9223372036854775807):wrap64 x=x - 18446744073709551616:=by
 have:=hx.2
 unfold wrap64
 omega
theorem groupSecretOk_any (sc x h n:Int)(w:World)(hx:U64 x) :
  Calls Tryz.prog 174 #[.agg #[],scv sc x h n] w fun e w'=>e=.returned (.bool (decide (grpP x h n)))∧Below w.heap.size w w':=by
 have hbb:Below w.heap.size w ((w.alloc (.cells #[] 166)).alloc (.cells #[.int .i64 sc,.int .u64 x,.int .i64 h,.int .i64 n] 39)):=two_below _ _ _
 obtain ⟨hx0,hx1⟩:=hx
 unfold scv
 by_cases hs:secP x
 ·have hxs:x≤9223372036854775807:=by have:=hs.2; omega
  by_cases h1:h=0
  ·by_cases h2:n=0
   ·have HV:Hid (decide (grpP x h n)=true):=decide_eq_true ⟨hs,h1,h2⟩
    have z1:(h == 0)=true:=beq_iff_eq.2 h1
    have z2:(n == 0)=true:=beq_iff_eq.2 h2
    clear h1 h2
    go_enter Tryz.func174,Tryz.ntmps174
    go_wp2_with fail
    refine (isSecret_any x _).mono ?_
    rintro e w2 ⟨rfl,rfl⟩
    rw [decide_eq_true hs]
    go_wp2
    go_ret
    exact ⟨by rw [HV.out]; rfl,hbb⟩
   ·have HV:Hid (decide (grpP x h n)=false):=decide_eq_false (fun hh=>h2 hh.2.2)
    have z1:(h == 0)=true:=beq_iff_eq.2 h1
    have z2:(n == 0)=false:=beq_false_of_ne h2
    clear h1 h2
    go_enter Tryz.func174,Tryz.ntmps174
    go_wp2_with fail
    refine (isSecret_any x _).mono ?_
    rintro e w2 ⟨rfl,rfl⟩
    rw [decide_eq_true hs]
    go_wp2
    go_ret
    exact ⟨by rw [HV.out]; rfl,hbb⟩
  ·have HV:Hid (decide (grpP x h n)=false):=decide_eq_false (fun hh=>h1 hh.2.1)
   have z1:(h == 0)=false:=beq_false_of_ne h1
   clear h1
   go_enter Tryz.func174,Tryz.ntmps174
   go_wp2_with fail
   refine (isSecret_any x _).mono ?_
   rintro e w2 ⟨rfl,rfl⟩
   rw [decide_eq_true hs]
   go_wp2
   go_ret
   exact ⟨by rw [HV.out]; rfl,hbb⟩
 ·have HV:Hid (decide (grpP x h n)=false):=decide_eq_false (fun hh=>hs hh.1)
  by_cases hxs:x≤9223372036854775807
  ·go_enter Tryz.func174,Tryz.ntmps174
   go_wp2_with fail
   refine (isSecret_any x _).mono ?_
   rintro e w2 ⟨rfl,rfl⟩
   rw [decide_eq_false hs]
   go_wp2
   go_ret
   exact ⟨by rw [HV.out]; rfl,hbb⟩
  ·have hwr:=wrap_big ⟨hx0,hx1⟩ hxs
   have hs2:¬ secP (wrap64 x):=by rw [hwr]; intro hh; have:=hh.1; omega
   clear hwr
   go_enter Tryz.func174,Tryz.ntmps174
   go_wp2_with fail
   refine (isSecret_any (wrap64 x) _).mono ?_
   rintro e w2 ⟨rfl,rfl⟩
   rw [decide_eq_false hs2]
   go_wp2
   go_ret
   exact ⟨by rw [HV.out]; rfl,hbb⟩
theorem treeSecretOk_any (sc x h n:Int)(w:World) :
  Calls Tryz.prog 189 #[.agg #[],scv sc x h n] w fun e w'=>e=.returned (.bool (decide (kP h n)))∧Below w.heap.size w w':=by
 have hbb:Below w.heap.size w ((w.alloc (.cells #[] 167)).alloc (.cells #[.int .i64 sc,.int .u64 x,.int .i64 h,.int .i64 n] 39)):=two_below _ _ _
 unfold scv
 go_enter Tryz.func189,Tryz.ntmps189
 go_wp2_with fail
 refine (treeKeyOf_any sc x h n _).mono ?_
 rintro e w2 ⟨rfl,hb2⟩
 go_wp2_with fail
 refine (isRight_any x h n _).mono ?_
 rintro e w3 ⟨rfl,hb3⟩
 go_wp2
 go_ret
 exact ⟨rfl,keepT hbb (keepT hb2 hb3)⟩
open Go.RowKit
theorem three_blocksT (w:World)(o0 o1 o2:Obj):(((w.alloc o0).alloc o1).alloc o2).heap[w.heap.size+1+1]? = some o2:=by
 have s1:((w.alloc o0).alloc o1).heap.size=w.heap.size+1+1:=by simp
 rw [← s1]; exact heap_alloc_new _ o2
theorem three_belowT (w:World)(o0 o1 o2:Obj):Below w.heap.size w (((w.alloc o0).alloc o1).alloc o2):=(((Below.refl _ _).alloc (Nat.le_refl _) _).alloc (by simp) _).alloc (by simp; omega) _
open Go.RowKit
def secOk (sc x h n:Int):Prop:=(sc=1∧grpP x h n)∨(sc=2∧kP h n)
instance (sc x h n:Int):Decidable (secOk sc x h n):=by unfold secOk; infer_instance
def ifv (sc:Int):Value:=if sc=1 then .iface 166 (.agg #[]) else if sc=2 then .iface 167 (.agg #[]) else .nilIface
theorem secretScheme_any (sc x h n:Int)(w:World)(hx:U64 x) :
  Calls Tryz.prog 64 #[scv sc x h n] w fun e w'=>e=.returned (.tuple #[ifv sc,.bool (decide (secOk sc x h n))])∧Below w.heap.size w w':=by
 have hbb:Below w.heap.size w (w.alloc (.cells #[.int .i64 sc,.int .u64 x,.int .i64 h,.int .i64 n] 39)):=(Below.refl _ _).alloc (Nat.le_refl _) _
 by_cases h1:sc=1
 ·subst h1
  have HV:Hid (decide (secOk 1 x h n)=decide (grpP x h n)):=by
   show _=_
   exact decide_eq_decide.2 ⟨fun hh=>hh.elim (fun a=>a.2) (fun a=>absurd a.1 (by decide)),fun hh=>.inl ⟨rfl,hh⟩⟩
  have HI:Hid (ifv 1=.iface 166 (.agg #[])):=rfl
  rw [HI.out,scv]
  go_enter Tryz.func64,Tryz.ntmps64
  go_wp2_with fail
  refine (schemeOf_1 _).mono ?_
  rintro e w2 ⟨rfl,rfl⟩
  go_wp2_with fail
  refine (groupSecretOk_any 1 x h n _ hx).mono ?_
  rintro e w3 ⟨rfl,hb3⟩
  go_wp2
  go_ret2
  exact ⟨by rw [HV.out]; rfl,keepT hbb hb3⟩
 by_cases h2:sc=2
 ·subst h2
  have HV:Hid (decide (secOk 2 x h n)=decide (kP h n)):=by
   show _=_
   exact decide_eq_decide.2 ⟨fun hh=>hh.elim (fun a=>absurd a.1 (by decide)) (fun a=>a.2),fun hh=>.inr ⟨rfl,hh⟩⟩
  have HI:Hid (ifv 2=.iface 167 (.agg #[])):=rfl
  rw [HI.out,scv]
  go_enter Tryz.func64,Tryz.ntmps64
  go_wp2_with fail
  refine (schemeOf_2 _).mono ?_
  rintro e w2 ⟨rfl,rfl⟩
  go_wp2_with fail
  refine (treeSecretOk_any 2 x h n _).mono ?_
  rintro e w3 ⟨rfl,hb3⟩
  go_wp2
  go_ret2
  exact ⟨by rw [HV.out]; rfl,keepT hbb hb3⟩
 ·have HV:Hid (decide (secOk sc x h n)=false):=decide_eq_false (fun hh=>hh.elim (fun a=>h1 a.1) (fun a=>h2 a.1))
  have HI:Hid (ifv sc=.nilIface):=by show _=_; unfold ifv; rw [if_neg h1,if_neg h2]
  rw [HI.out,scv]
  go_enter Tryz.func64,Tryz.ntmps64
  go_wp2_with fail
  refine (schemeOf_o sc _ h1 h2).mono ?_
  rintro e w2 ⟨rfl,rfl⟩
  go_wp2
  go_ret2
  exact ⟨by rw [HV.out]; rfl,hbb⟩
theorem l8SecretOk_any (sc x h n:Int)(w:World)(hx:U64 x) :
  Calls Tryz.prog 44 #[scv sc x h n] w fun e w'=>e=.returned (.bool (decide (secOk sc x h n)))∧Below w.heap.size w w':=by
 have hbb:Below w.heap.size w (w.alloc (.cells #[.int .i64 sc,.int .u64 x,.int .i64 h,.int .i64 n] 39)):=(Below.refl _ _).alloc (Nat.le_refl _) _
 obtain ⟨hx0,hx1⟩:=hx
 rw [scv]
 by_cases h1:sc=1
 ·subst h1
  by_cases a1:1≤x
  ·by_cases a2:x<500000003
   ·by_cases a3:h=0
    ·have z1:(h == 0)=true:=beq_iff_eq.2 a3
     by_cases a4:n=0
     ·have z2:(n == 0)=true:=beq_iff_eq.2 a4
      have HV:Hid (decide (secOk 1 x h n)=true):=decide_eq_true (.inl ⟨rfl,⟨a1,by omega⟩,a3,a4⟩)
      clear a3 a4
      go_enter Tryz.func44,Tryz.ntmps44
      go_wp2
      go_ret
      exact ⟨by rw [HV.out]; rfl,hbb⟩
     ·have z2:(n == 0)=false:=beq_false_of_ne a4
      have HV:Hid (decide (secOk 1 x h n)=false):=decide_eq_false (fun hh=>hh.elim (fun a=>a4 a.2.2.2) (fun a=>absurd a.1 (by decide)))
      clear a3 a4
      go_enter Tryz.func44,Tryz.ntmps44
      go_wp2
      go_ret
      exact ⟨by rw [HV.out]; rfl,hbb⟩
    ·have z1:(h == 0)=false:=beq_false_of_ne a3
     have HV:Hid (decide (secOk 1 x h n)=false):=decide_eq_false (fun hh=>hh.elim (fun a=>a3 a.2.2.1) (fun a=>absurd a.1 (by decide)))
     clear a3
     go_enter Tryz.func44,Tryz.ntmps44
     go_wp2
     go_ret
     exact ⟨by rw [HV.out]; rfl,hbb⟩
   ·have a2':decide (x<500000003)=false:=decide_eq_false a2
    have HV:Hid (decide (secOk 1 x h n)=false):=decide_eq_false (fun hh=>hh.elim (fun a=>by have:=a.2.1.2; omega) (fun a=>absurd a.1 (by decide)))
    go_enter Tryz.func44,Tryz.ntmps44
    go_wp2
    go_ret
    exact ⟨by rw [HV.out]; rfl,hbb⟩
  ·have a1':decide (1≤x)=false:=decide_eq_false a1
   have HV:Hid (decide (secOk 1 x h n)=false):=decide_eq_false (fun hh=>hh.elim (fun a=>a1 a.2.1.1) (fun a=>absurd a.1 (by decide)))
   go_enter Tryz.func44,Tryz.ntmps44
   go_wp2
   go_ret
   exact ⟨by rw [HV.out]; rfl,hbb⟩
 have z1:(sc == 1)=false:=beq_false_of_ne h1
 by_cases h2:sc=2
 ·subst h2
  have HV:Hid (decide (secOk 2 x h n)=decide (kP h n)):=by
   show _=_
   exact decide_eq_decide.2 ⟨fun hh=>hh.elim (fun a=>absurd a.1 (by decide)) (fun a=>a.2),fun hh=>.inr ⟨rfl,hh⟩⟩
  clear h1
  go_enter Tryz.func44,Tryz.ntmps44
  go_wp2_with fail
  refine (l8Tree_any 2 x h n _).mono ?_
  rintro e w2 ⟨rfl,hb2⟩
  go_wp2_with fail
  refine (l8KeyOk_any x h n _).mono ?_
  rintro e w3 ⟨rfl,hb3⟩
  go_wp2
  go_ret
  exact ⟨by rw [HV.out]; rfl,keepT hbb (keepT hb2 hb3)⟩
 ·have z2:(sc == 2)=false:=beq_false_of_ne h2
  have HV:Hid (decide (secOk sc x h n)=false):=decide_eq_false (fun hh=>hh.elim (fun a=>h1 a.1) (fun a=>h2 a.1))
  clear h1 h2
  go_enter Tryz.func44,Tryz.ntmps44
  go_wp2
  go_ret
  exact ⟨by rw [HV.out]; rfl,hbb⟩
theorem results_se {fn:Func}{t:Tmp}(h:fn.results=#[.cell t 39])(tmps:Array Value)(g:Nat)(ht:tmps.getD t undef=.pointer (some ⟨g,0,none⟩))(w:World)(c0 c1 c2 c3:Value)
  (hb:w.heap[g]? = some (.cells #[c0,c1,c2,c3] 39 (0,0))):(results fn tmps).run Tryz.prog w=.ok (.agg #[c0,c1,c2,c3]) w:=by
 have d0:w.cell? ⟨g,0,none⟩=some c0:=qk hb rfl
 have d1:w.cell? ⟨g,1,none⟩=some c1:=qk hb rfl
 have d2:w.cell? ⟨g,2,none⟩=some c2:=qk hb rfl
 have d3:w.cell? ⟨g,3,none⟩=some c3:=qk hb rfl
 clear hb
 have ht':tmps[t]?.getD undef=.pointer (some ⟨g,0,none⟩):=by rw [← ht]; simp
 simp [results,h,go_sem,ht',d0,d1,d2,d3]
theorem toSecret_any (a b c d:Int)(w:World) :
  Calls Tryz.prog 7 #[scv a b c d] w fun e w'=>e=.returned (scv a b c d)∧Below w.heap.size w w':=by
 have b1:((((w.alloc (.cells #[.int .i64 a,.int .u64 b,.int .i64 c,.int .i64 d] 31)).alloc (.cells #[.int .i64 a,.int .u64 b,.int .i64 c,.int .i64 d] 39)).alloc (.cells #[.int .i64 a,.int .u64 b,.int .i64 c,.int .i64 d] 39))).heap[w.heap.size+1]? = some (.cells #[.int .i64 a,.int .u64 b,.int .i64 c,.int .i64 d] 39):=by
  exact (alloc_oldT _ _ _ (by simp)).trans (two_blocks w _ _).2
 have HB1:Hid (_=_):=b1
 clear b1
 unfold scv
 go_enter Tryz.func7,Tryz.ntmps7
 go_wp2
 try simp only [Exit.inBlock,Exit.then]
 exact bodyPost_ret (results_se rfl _ (w.heap.size+1) rfl _ _ _ _ _ HB1.out) rfl ⟨rfl,three_belowT _ _ _ _⟩
open Go.RowKit
def sigv (t:Int × Int):Value:=.agg #[.int .i64 t.1,.int .i64 t.2]
structure BoxS (t g:Nat)(W:World)(p:Int × Int):Prop where
 heap:W.heap[g]? = some (.cells #[.int .i64 p.1,.int .i64 p.2] t (0,0))
theorem BoxS.c0 {t g:Nat}{W:World}{p:Int × Int}(h:BoxS t g W p):W.cell? ⟨g,0,none⟩=some (.int .i64 p.1):=(cell_of_row _ g 0 _ t (0,0) h.heap).trans rfl
theorem BoxS.c1 {t g:Nat}{W:World}{p:Int × Int}(h:BoxS t g W p):W.cell? ⟨g,1,none⟩=some (.int .i64 p.2):=(cell_of_row _ g 1 _ t (0,0) h.heap).trans rfl
theorem BoxS.fr {t g:Nat}{W:World}{p:Int × Int}(h:BoxS t g W p)(j:Nat):W.frozen? ⟨g,j,none⟩=false:=frozen_of_row W g j _ t h.heap
theorem BoxS.lt {t g:Nat}{W:World}{p:Int × Int}(h:BoxS t g W p):g<W.heap.size:=(Array.getElem?_eq_some_iff.1 h.heap).1
theorem BoxS.kept {t g:Nat}{W W':World}{p:Int × Int}(h:BoxS t g W p)(hb:Below W.heap.size W W'):BoxS t g W' p:=⟨(hb.block _ h.lt).trans h.heap⟩
theorem boxS_new (t:Nat)(w:World)(a b:Int):BoxS t w.heap.size (w.alloc (.cells #[.int .i64 a,.int .i64 b] t)) (a,b):=⟨heap_alloc_new w _⟩
theorem BoxS.set {t g:Nat}{W:World}{p:Int × Int}(h:BoxS t g W p)(a b:Int):BoxS t g ((W.setCell ⟨g,0,none⟩ (.int .i64 a)).setCell ⟨g,1,none⟩ (.int .i64 b)) (a,b) :=
 ⟨heap_setCell_same _ g 1 _ t _ (heap_setCell_same _ g 0 _ t (.int .i64 a) h.heap)⟩
theorem below_set2 {B:Nat}{w0 w:World}(h:Below B w0 w)(g:Nat)(hg:B≤g)(u v:Value):Below B w0 ((w.setCell ⟨g,0,none⟩ u).setCell ⟨g,1,none⟩ v):=(h.setCell hg _).setCell hg _
theorem results_sig2 {fn:Func}{t u:Tmp}(h:fn.results=#[.cell t 79,.tmp u])(tmps:Array Value)(g:Nat)(ht:tmps.getD t undef=.pointer (some ⟨g,0,none⟩))(v:Value)(hv:tmps.getD u undef=v)(w:World)(p:Int × Int)
  (hb:BoxS 79 g w p):(results fn tmps).run Tryz.prog w=.ok (.tuple #[sigv p,v]) w:=by
 have d0:=hb.c0
 have d1:=hb.c1
 clear hb
 have ht':tmps[t]?.getD undef=.pointer (some ⟨g,0,none⟩):=by rw [← ht]; simp
 have hv':tmps[u]?.getD undef=v:=by rw [← hv]; simp
 simp [results,h,go_sem,ht',hv',d0,d1,sigv]
open Go.RowKit
theorem alloc_old (w:World)(o:Obj)(g:Nat)(hg:g<w.heap.size):(w.alloc o).heap[g]? = w.heap[g]?:=((Below.refl w.heap.size w).alloc (Nat.le_refl _) o).block g hg
structure BoxT (t g:Nat)(W:World)(x:It)(ab:Option Addr)(nb cb:Nat)(ak:Option Addr)(nk ck:Nat):Prop where
 heap:W.heap[g]? = some (.cells #[.int .i64 x.cls,.int .i64 x.tag,.bool x.cons,.slice ab nb cb,.slice ak nk ck] t (0,0))
theorem boxT_new (t:Nat)(w:World)(x:It)(ab:Option Addr)(nb cb:Nat)(ak:Option Addr)(nk ck:Nat):BoxT t w.heap.size (w.alloc (.cells #[.int .i64 x.cls,.int .i64 x.tag,.bool x.cons,.slice ab nb cb,.slice ak nk ck] t)) x ab nb cb ak nk ck:=⟨heap_alloc_new w _⟩
theorem BoxT.kept {t g:Nat}{W W':World}{x:It}{ab:Option Addr}{nb cb:Nat}{ak:Option Addr}{nk ck:Nat}(h:BoxT t g W x ab nb cb ak nk ck)(hb:Below W.heap.size W W'):BoxT t g W' x ab nb cb ak nk ck:=⟨(hb.block _ (Array.getElem?_eq_some_iff.1 h.heap).1).trans h.heap⟩
theorem BoxT.lt {t g:Nat}{W:World}{x:It}{ab:Option Addr}{nb cb:Nat}{ak:Option Addr}{nk ck:Nat}(h:BoxT t g W x ab nb cb ak nk ck):g<W.heap.size:=(Array.getElem?_eq_some_iff.1 h.heap).1
theorem BoxT.cells {t g:Nat}{W:World}{x:It}{ab:Option Addr}{nb cb:Nat}{ak:Option Addr}{nk ck:Nat}(h:BoxT t g W x ab nb cb ak nk ck) :
  W.cell? ⟨g,0,none⟩=some (.int .i64 x.cls)∧W.cell? ⟨g,1,none⟩=some (.int .i64 x.tag)∧W.cell? ⟨g,2,none⟩=some (.bool x.cons)∧W.cell? ⟨g,3,none⟩=some (.slice ab nb cb)∧W.cell? ⟨g,4,none⟩=some (.slice ak nk ck) :=
 ⟨(cell_of_row _ g 0 _ t (0,0) h.heap).trans rfl,(cell_of_row _ g 1 _ t (0,0) h.heap).trans rfl,(cell_of_row _ g 2 _ t (0,0) h.heap).trans rfl,(cell_of_row _ g 3 _ t (0,0) h.heap).trans rfl,(cell_of_row _ g 4 _ t (0,0) h.heap).trans rfl⟩
theorem encK_ge (f:It→Option (List Int))(xs:List It):∀ acc l,encK f acc xs=some l→acc.length≤l.length:=by
 induction xs with
 | nil=>intro acc l e; simp [encK] at e; subst e; exact Nat.le_refl _
 | cons x xs ih =>
  intro acc l e
  simp only [encK] at e
  split at e
  ·cases e
  ·split at e
   ·have:=ih _ _ e
    rw [List.length_append] at this
    omega
   ·cases e
theorem encK_step (f:It→Option (List Int))(xs:List It)(k:Nat)(h:k<xs.length)(acc l:List Int)(e:encK f acc (xs.drop k)=some l):∃ p,f (xs.getD k default)=some p∧acc.length+p.length≤50000∧encK f (acc++p) (xs.drop (k+1))=some l:=by
 rw [drop_get xs k h] at e
 simp only [encK] at e
 split at e
 ·cases e
 ·rename_i p hp
  split at e
  ·exact ⟨p,hp,by assumption,e⟩
  ·cases e
theorem enc_parts (r:Nat)(x:It)(l:List Int)(h:enc (r+1) x=some l):x.shape=true∧∃ inner,inX r x=some inner∧l=headL x inner.length++inner∧l.length≤50000:=by
 have hl:=enc_len _ _ _ h
 cases hs:x.shape with
 | false=>rw [enc_shape r x hs] at h; cases h
 | true =>
  refine ⟨rfl,?_⟩
  cases hi:inX r x with
  | none=>rw [enc_inX_none r x hs hi] at h; cases h
  | some inner =>
   refine ⟨inner,rfl,?_,hl⟩
   by_cases hlong:(headL x inner.length++inner).length≤50000
   ·rw [enc_inX_some r x inner hs hi hlong] at h
    exact (Option.some.inj h).symm
   ·rw [enc_inX_long r x inner hs hi hlong] at h; cases h
theorem own_zero (B:Nat)(w:World)(g:Nat)(hg:w.heap.size=g)(h:B≤w.heap.size):Own B (w.alloc (.cells #[] 5)) (some ⟨g,0,none⟩) 0 0 []:=by
 subst hg
 exact ⟨World.ownsRow_lit w #[] 0 h (by decide) rfl,by simp⟩
def SpecBytes (d:Nat):Prop:=∀ (r:Nat) (x:It) (l:List Int) (ab:Option Addr) (nb cb:Nat) (ak:Option Addr) (nk ck:Nat) (w:World),enc r x=some l→Row w ab nb x.body→(ab=none→cb=0)→Kids d w ak nk x.kids →
  Calls Tryz.prog 53 #[itv x ab nb cb ak nk ck] w fun e w'=>∃ a cap,e=.returned (.slice a l.length cap)∧Own w.heap.size w' a l.length cap l∧Below w.heap.size w w'
theorem specBytes_next (d:Nat)(ih:SpecBytes d):SpecBytes (d+1):=by
 intro r x l ab nb cb ak nk ck w henc hrow hnil hk
 obtain ⟨i0,hi,hz0,hz1,hz2⟩:=info_parts Tryz.info5
 cases r with
 | zero=>simp [enc] at henc
 | succ r =>
  obtain ⟨hsh,inner,hin,hl,hl2⟩:=enc_parts r x l henc
  have hge:=encK_ge _ _ _ _ hin
  have hil:inner.length≤50000:=by rw [hl,List.length_append] at hl2; omega
  have hnb:nb≤50000:=by rw [hrow.len] at hge; omega
  have HR:Hid (Row w ab nb x.body):=hrow
  have HK:Hid (Kids (d+1) w ak nk x.kids):=hk
  have HL:Hid (x.kids.length=nk):=hk.1
  have hnk:=hk.2.1
  have HI:Hid (encK (enc r) x.body (x.kids.drop 0)=some inner):=by show _=_; rw [List.drop_zero]; exact hin
  have HLL:Hid (l=headL x inner.length++inner):=hl
  have hsb:=shape_bounds hsh
  have hbl:Below w.heap.size w (w.alloc (.cells #[.int .i64 x.cls,.int .i64 x.tag,.bool x.cons,.slice ab nb cb,.slice ak nk ck] 94)):=(Below.refl _ _).alloc (Nat.le_refl _) _
  have hB1:Below w.heap.size w ((w.alloc (.cells #[.int .i64 x.cls,.int .i64 x.tag,.bool x.cons,.slice ab nb cb,.slice ak nk ck] 94)).alloc (.cells #[] 5)):=hbl.alloc hbl.size _
  have HO:Hid (Own (w.heap.size+1) ((w.alloc (.cells #[.int .i64 x.cls,.int .i64 x.tag,.bool x.cons,.slice ab nb cb,.slice ak nk ck] 94)).alloc (.cells #[] 5)) (some ⟨w.heap.size+1,0,none⟩) 0 0 []):=own_zero _ _ _ (by simp) (by simp)
  have BX0:Hid (_):=boxT_new 94 w x ab nb cb ak nk ck
  clear hrow hk hin hl henc hge
  unfold itv
  go_enter Tryz.func53,Tryz.ntmps53
  go_wp2_with (at_builtin; refine wpList_append_row _ rfl (.tmp 5) (.tmp 7) 26 rfl (w.heap.size+1) i0 Tryz.underlying26 hi hz0 hz1 hz2 _ _ _ rfl HO.out.row ab nb cb x.body rfl (HR.out.kept hB1) hnil (by omega) (by simp) ?_; intro v1 w1 hv1 hg1; obtain ⟨a1,c1,rfl,ho1⟩:=own_appended (xs:=[]) (ys:=x.body) hv1 HO.out.byte HR.out.byte; have hb1:Below w.heap.size w w1:=below_appended hB1 hB1.size (HO.out.mono (by omega)).row hg1; have hx1:BoxT 94 w.heap.size w1 x ab nb cb ak nk ck:=⟨(hg1.block w.heap.size (by simp; omega) (by show some w.heap.size≠some (w.heap.size+1); simp)).trans ((alloc_old _ _ _ (by simp)).trans BX0.out.heap)⟩)
  have ho1':Own (w.heap.size+1) w1 a1 nb c1 x.body:=by simpa using ho1
  go_loopw [3,4] (fun o i wr=>∃ (k m c:Nat) (ao:Option Addr) (acc:List Int),k≤nk∧i=.int .i64 k∧o=.slice ao m c∧Own (w.heap.size+1) wr ao m c acc∧m≤50000∧Hid (encK (enc r) acc (x.kids.drop k)=some inner)∧BoxT 94 w.heap.size wr x ab nb cb ak nk ck∧Below w.heap.size w wr) (fun _ i _=>nk - (intOf i).toNat)
  case atStart=>exact ⟨0,nb,c1,a1,x.body,Nat.zero_le _,rfl,rfl,ho1',hnb,HI,hx1,hb1⟩
  case round =>
   obtain ⟨k,m,c,ao,acc,hk,rfl,rfl,hor,hm,hE,hbx,hbr⟩:=hrel
   obtain ⟨x0,x1,x2,x3,x4⟩:=hbx.cells
   have BX:Hid (BoxT 94 w.heap.size wr x ab nb cb ak nk ck):=hbx
   clear hbx
   have hs:=hbr.size
   by_cases hkn:k<nk
   ·obtain ⟨b,off,rfl,hlb,ab1,nb1,cb1,ak1,nk1,ck1,c0,c1',c2,c3,c4,hr1,hn1,hm1,hk1⟩:=HK.out.2.2 k hkn
    obtain ⟨p,hp,hpl,hpn⟩:=encK_step _ _ _ (by rw [HL.out]; exact hkn) _ _ hE.out
    obtain ⟨y,hy⟩:∃ y,y=x.kids.getD k default:=⟨_,rfl⟩
    rw [← hy] at c0 c1' c2 hr1 hk1 hp
    have cc:∀ j,wr.cell? ⟨b,j,none⟩=w.cell? ⟨b,j,none⟩:=fun j=>hbr.cell (p:=⟨b,j,none⟩) hlb
    rw [← cc] at c0 c1' c2 c3 c4
    have hkni:(k:Int)<(nk:Int):=by omega
    have hla:=hor.length
    rw [hla] at hpl
    have R1:Hid (_):=hr1.kept hbr
    have K1:Hid (_):=hk1.kept hbr
    have HP:Hid (enc r y=some p):=hp
    have HPN:Hid (encK (enc r) (acc++p) (x.kids.drop (k+1))=some inner):=hpn
    clear cc hy hr1 hk1 hp hpn hla
    go_wp2_with fail
    refine (ih r y p ab1 nb1 cb1 ak1 nk1 ck1 _ HP.out R1.out hn1 K1.out).mono ?_
    rintro e w2 ⟨a2,c2',rfl,ho2,hb2⟩
    have hb2':Below w.heap.size w w2:=hbr.trans (hb2.mono hs)
    have hor2:=hor.kept hb2
    have ho2':=ho2.mono hs
    obtain ⟨q,hq⟩:∃ q,q=p.length:=⟨_,rfl⟩
    rw [← hq] at ho2 ho2' hpl ⊢
    have BX2:Hid (_):=BX.out.kept hb2
    clear hq
    go_wp2_with (at_builtin; refine wpList_append_row _ rfl (.tmp 16) (.tmp 22) 26 rfl (w.heap.size+1) i0 Tryz.underlying26 hi hz0 hz1 hz2 _ _ _ rfl hor2.row a2 q c2' p rfl ho2.toRow ho2.nil (by omega) (by have:=BX.out.lt; have:=hb2.size; omega) ?_; intro v3 w3 hv3 hg3)
    obtain ⟨a3,c3',rfl,ho3⟩:=own_appended (xs:=acc) (ys:=p) hv3 hor2.byte ho2.byte
    have hb3:Below w.heap.size w w3:=below_appended hb2' hb2'.size (hor2.mono (by omega)).row hg3
    have hlt2:=BX2.out.lt
    have hx3:BoxT 94 w.heap.size w3 x ab nb cb (some ⟨b,off,none⟩) nk ck:=⟨(hg3.block w.heap.size hlt2 (fun e=>by have:=(hor2.row.lt _ e.symm).1; omega)).trans BX2.out.heap⟩
    have FIN:Hid (_∧_):=⟨ho3,hx3⟩
    clear ho3 hx3 hv3 hg3
    go_wp2
    go_roundw
    case rel=>exact ⟨k+1,m+q,c3',a3,acc++p,by omega,by go_num,rfl,FIN.out.1,hpl,HPN,FIN.out.2,hb3⟩
    case measure=>simp [intOf]; omega
   ·obtain rfl:nk=k:=by omega
    have hacc:Hid (acc=inner):=by
     show _=_
     have:=hE.out
     rw [encK_end _ _ _ (by rw [HL.out]; exact Nat.le_refl _)] at this
     exact Option.some.inj this
    go_wp2_with fail
    refine (l2Head_any x ab nb cb ak nk ck m _ hsb.1 hsb.2 (by omega)).mono ?_
    rintro e w3 ⟨a3,c3,rfl,ho3,hb3⟩
    have hb3':Below w.heap.size w w3:=hbr.trans (hb3.mono hs)
    have hor3:=hor.kept hb3
    have hla:=hor.length
    have hh:=headL_len x m hsb.2
    have HLL2:Hid (l=headL x m++acc):=by show _=_; rw [HLL.out,← hacc.out,hla]
    obtain ⟨hd,hhd⟩:∃ hd,hd=headL x m:=⟨_,rfl⟩
    rw [← hhd] at ho3 hh HLL2 ⊢
    obtain ⟨nh,hnh⟩:∃ nh,nh=hd.length:=⟨_,rfl⟩
    rw [← hnh] at ho3 hh ⊢
    have HN:Hid (l.length=nh+m):=by show _=_; rw [HLL2.out,List.length_append,hla,← hnh]
    have ho3':=ho3.mono hs
    clear hhd hnh hla
    go_wp2_with (at_builtin; refine wpList_append_row _ rfl (.tmp 27) (.tmp 28) 26 rfl w.heap.size i0 Tryz.underlying26 hi hz0 hz1 hz2 _ _ _ rfl ho3'.row ao m c acc rfl hor3.toRow hor3.nil (by omega) hb3'.size ?_; intro v5 w5 hv5 hg5; obtain ⟨a5,c5,rfl,ho5⟩:=own_appended (xs:=hd) (ys:=acc) hv5 ho3'.byte hor3.byte; have hb5:Below w.heap.size w w5:=below_appended hb3' hb3'.size ho3'.row hg5)
    go_ret
    exact ⟨a5,c5,by rw [HN.out]; rfl,by rw [HN.out,HLL2.out]; exact ho5,hb5⟩
theorem specBytes_all (d:Nat):SpecBytes d:=by
 induction d with
 | zero=>intro r x l ab nb cb ak nk ck w _ _ _ h; exact h.elim
 | succ d ih=>exact specBytes_next d ih
end Go.Proofs.YtnmplldhdfingaaGreatDoor
