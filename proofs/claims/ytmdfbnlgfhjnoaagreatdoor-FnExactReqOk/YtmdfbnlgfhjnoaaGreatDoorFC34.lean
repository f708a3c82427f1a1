import Derived.Deep.MidRow
import Derived.Laws.BitsLemmas
import Derived.WalkMore
import Derived.ScopeJumps
import Derived.Test.YtmdfbnlgfhjnoaaGreatDoorFC22
import Derived.Test.YtmdfbnlgfhjnoaaGreatDoorFC32
import Derived.Test.YtmdfbnlgfhjnoaaGreatDoorFC33
set_option maxRecDepth 10000
set_option maxHeartbeats 8000000
set_option linter.unusedVariables false
namespace Go.Proofs.YtmdfbnlgfhjnoaaGreatDoor
open Go.RowKit
theorem keeps_and {B:Nat}{W:World}{P Q:World→Prop}(h:Keeps B W P)(k:Keeps B W Q):Keeps B W (fun W=>P W∧Q W):=by
 obtain ⟨R1,s1,r1,q1⟩:=h
 obtain ⟨R2,s2,r2,q2⟩:=k
 exact ⟨fun W=>R1 W∧R2 W,stab_and s1 s2,⟨r1,r2⟩,fun W' r=>⟨q1 _ r.1,q2 _ r.2⟩⟩
theorem toName_k (a:Option Addr)(n c:Nat)(xs:List PT)(w:World)(h:Pts w a n xs)(hn:n≤1048576) :
  Calls Tryz.prog 38 #[.agg #[.slice a n c]] w fun e w'=>∃ a',e=.returned (.agg #[.slice a' n n])∧Keeps w.heap.size w' (fun W=>Pts W a' n xs)∧Below w.heap.size w w' :=
 (toName_at a n c xs w h hn).mono fun _ _ ⟨_,h1,hg,h2,h3⟩=>⟨_,h1,keeps_of (stab_pts hg) h2,h3⟩
theorem toGenNameS_k (a:Option Addr)(n cap:Nat)(xs:List GE)(w:World)(h:Ges w a n xs)(hn:n≤1048576)(hz:∀ k,k<n→GeOk (xs.getD k default)) :
  Calls Tryz.prog 39 #[.slice a n cap] w fun e w'=>∃ a',e=.returned (.slice a' n n)∧Keeps w.heap.size w' (fun W=>Ges W a' n xs)∧Below w.heap.size w w' :=
 (toGenNameS_at a n cap xs w h hn hz).mono fun _ _ ⟨h1,h2,h3,h4⟩=>⟨_,h1,(keeps_of (stab_and (stab_ge (Nat.le_refl _)) (stab_lt _ _)) ⟨h2,h3⟩).map (fun W q=>q.1.ges h.len h.max q.2 hz),h4⟩
theorem toByteS_k (a:Option Addr)(n cap:Nat)(bs:List Int)(w:World)(h:Row w a n bs)(hn:n≤1048576) :
  Calls Tryz.prog 43 #[.slice a n cap] w fun e w'=>∃ a',e=.returned (.slice a' n n)∧Keeps w.heap.size w' (fun W=>Row W a' n bs)∧Below w.heap.size w w' :=
 (toByteS_any a n cap bs w h hn).mono fun _ _ ⟨_,h1,h2,h3⟩=>⟨_,h1,(keeps_of (stab_own (Nat.le_refl _)) h2).map (fun _ q=>q.toRow),h3⟩
theorem eqByteS_one (a b:Option Addr)(n ca cb:Nat)(xs:List Int)(w:World)(hx:Row w a n xs)(hy:Row w b n xs)(hn:n≤1048576) :
  Calls Tryz.prog 12 #[.slice a n ca,.slice b n cb] w fun e w'=>e=.returned (.bool true)∧Below w.heap.size w w' :=
 (eqByteS_any a b n n ca cb xs xs w hx hy (by unfold maxLen; omega) (by unfold maxLen; omega)).mono fun _ _ ⟨h1,h2⟩=>⟨by rw [h1,decide_eq_true rfl],h2⟩
theorem nil_row {W:World}{a:Option Addr}{n:Nat}{bs:List Int}(h:Row W a n bs):a=none→n=0:=fun e=>by
 by_cases hn:0<n
 ·obtain ⟨b,off,ha,_⟩:=h.get 0 hn
  rw [e] at ha
  cases ha
 ·omega
open Go.RowKit
theorem getL_place (l:List Int):∀ (m p:Int),(getL l m p).2.2=0→p≤(getL l m p).2.1∧(getL l m p).2.1≤p+l.length:=by
 induction l with
 | nil=>intro m p h; simp [getL] at h
 | cons x r ih =>
  intro m p h
  rw [getL] at h ⊢
  split at h
  ·simp at h
  ·rename_i h1
   rw [if_neg h1]
   split at h
   ·rename_i h2
    rw [if_pos h2]
    simp
    omega
   ·rename_i h2
    rw [if_neg h2]
    have:=ih _ _ h
    simp
    omega
theorem getN_place (bs:List Int)(p:Int)(h:(getN bs p).2.2=0):0≤(getN bs p).2.1∧(getN bs p).2.1≤bs.length:=by
 unfold getN at h ⊢
 split at h
 ·simp at h
 ·rename_i h1
  rw [if_neg h1]
  split at h
  ·simp at h
  ·rename_i h2
   rw [if_neg h2]
   have:=getL_place _ _ _ h
   rw [List.length_drop] at this
   omega
def vgP (y:Int)(ms ss:List Int):Prop:=(getN ss 0).2.2=0∧(getN ss (getN ss 0).2.1).2.2=0∧(getN ss (getN ss 0).2.1).2.1=(ss.length:Int)∧verP y ms ((getN ss 0).1,(getN ss (getN ss 0).2.1).1)
instance (y:Int) (ms ss:List Int):Decidable (vgP y ms ss):=by unfold vgP; infer_instance
theorem groupVerify_any (sc y h:Int)(am:Option Addr)(n c:Nat)(ms:List Int)(ag:Option Addr)(ng cg:Nat)(ss:List Int)(w:World)(hr:Row w am n ms)(hn:n≤1048576)(hc:am=none→c=0)(hg:Row w ag ng ss)(hng:ng≤1048576)(hy:keyP y) :
  Calls Tryz.prog 267 #[.agg #[],kpv sc y h,.slice am n c,.slice ag ng cg] w fun e w'=>e=.returned (.bool (decide (vgP y ms ss)))∧Below w.heap.size w w':=by
 have hyl:=keyP_lt hy
 obtain ⟨hy0,hy1⟩:=hyl
 obtain ⟨wb,hwb⟩:∃ wb,wb=(w.alloc (.cells #[] 220)).alloc (.cells #[.int .i64 sc,.int .u64 y,.int .i64 h] 41):=⟨_,rfl⟩
 have hbb:Below w.heap.size w wb:=by rw [hwb]; exact two_below _ _ _
 have hbx:wb.heap[w.heap.size+1]? = some (.cells #[.int .i64 sc,.int .u64 y,.int .i64 h] 41):=by rw [hwb]; exact (two_blocks w _ _).2
 have HW:Hid (_=_):=hwb
 have HG:Hid (Row wb ag ng ss):=hg.kept hbb
 have HM:Hid (Row wb am n ms):=hr.kept hbb
 have HL:Hid (ss.length=ng):=hg.len
 have q1:wb.cell? ⟨w.heap.size+1,1,none⟩=some (.int .u64 y):=(cell_of_row _ _ 1 _ 41 (0,0) hbx).trans rfl
 obtain ⟨t1,ht1⟩:∃ t1,t1=getN ss 0:=⟨_,rfl⟩
 have H1:Hid (getN ss 0=t1):=ht1.symm
 obtain ⟨e1,at1,k1⟩:=t1
 obtain ⟨t2,ht2⟩:∃ t2,t2=getN ss at1:=⟨_,rfl⟩
 have H2:Hid (getN ss at1=t2):=ht2.symm
 obtain ⟨e2,at2,k2⟩:=t2
 have HV:Hid (vgP y ms ss↔(k1=0∧k2=0∧at2=(ng:Int)∧verP y ms (e1,e2))):=by
  show _↔_
  unfold vgP
  rw [H1.out,H2.out,HL.out]
 clear hwb hg hr hbx ht1 ht2
 unfold kpv
 go_enter Tryz.func267,Tryz.ntmps267
 go_upto_region 1 with fail
 rw [← HW.out]
 clear HW
 go_wp2_with fail
 refine (implGetNum_any ag ng cg ss 0 _ HG.out (by omega)).mono ?_
 rintro e w2 ⟨rfl,hw⟩
 have hw2:=hw.symm
 subst hw2
 rw [H1.out,trip]
 go_wp2_with fail
 refine (implGetNum_any ag ng cg ss at1 _ HG.out (by omega)).mono ?_
 rintro e w2 ⟨rfl,hw⟩
 have hw2:=hw.symm
 subst hw2
 rw [H2.out,trip]
 by_cases hk1:k1=0
 ·have z1:(k1 != 0)=false:=by simp [hk1]
  by_cases hk2:k2=0
  ·have z2:(k2 != 0)=false:=by simp [hk2]
   by_cases ha:at2=(ng:Int)
   ·have z3:(at2 != (ng:Int))=false:=by simp [ha]
    have HE:Hid (decide (vgP y ms ss)=decide (verP y ms (e1,e2))):=decide_eq_decide.2 ⟨fun a=>(HV.out.1 a).2.2.2,fun a=>HV.out.2 ⟨hk1,hk2,ha,a⟩⟩
    clear hk1 hk2 ha
    go_wp2_with fail
    refine (implVerify_any y am n c ms (e1,e2) _ HM.out hn hc).mono ?_
    rintro e w3 ⟨rfl,hb3⟩
    go_wp2
    go_ret
    exact ⟨by rw [HE.out]; rfl,keepT hbb hb3⟩
   ·have z3:(at2 != (ng:Int))=true:=by simp [ha]
    have HE:Hid (decide (vgP y ms ss)=false):=decide_eq_false (fun a=>ha (HV.out.1 a).2.2.1)
    clear hk1 hk2 ha
    go_wp2
    go_ret
    exact ⟨by rw [HE.out]; rfl,hbb⟩
  ·have z2:(k2 != 0)=true:=by simp [hk2]
   have HE:Hid (decide (vgP y ms ss)=false):=decide_eq_false (fun a=>hk2 (HV.out.1 a).2.1)
   clear hk1 hk2
   go_wp2
   go_ret
   exact ⟨by rw [HE.out]; rfl,hbb⟩
 ·have z1:(k1 != 0)=true:=by simp [hk1]
  have HE:Hid (decide (vgP y ms ss)=false):=decide_eq_false (fun a=>hk1 (HV.out.1 a).1)
  clear hk1
  go_wp2
  go_ret
  exact ⟨by rw [HE.out]; rfl,hbb⟩
end Go.Proofs.YtmdfbnlgfhjnoaaGreatDoor
