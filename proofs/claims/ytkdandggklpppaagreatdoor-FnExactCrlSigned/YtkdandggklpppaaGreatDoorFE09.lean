import Derived.Test.YtkdandggklpppaaGreatDoorFE08
set_option maxRecDepth 10000
set_option maxHeartbeats 8000000
set_option linter.unusedVariables false
namespace Go.Proofs.YtkdandggklpppaaGreatDoor
open Go.RowKit
def U64 (v:Int):Prop:=0≤v∧v≤18446744073709551615
theorem keepT {w w1 w2:World}(h:Below w.heap.size w w1)(k:Below w1.heap.size w1 w2):Below w.heap.size w w2:=h.trans (k.mono h.size)
theorem alloc_oldT (w:World)(o:Obj)(g:Nat)(hg:g<w.heap.size):(w.alloc o).heap[g]? = w.heap[g]?:=((Below.refl w.heap.size w).alloc (Nat.le_refl _) o).block g hg
def kpv (sc y h:Int):Value:=.agg #[.int .i64 sc,.int .u64 y,.int .i64 h]
theorem wrap_big {x:Int}(hx:U64 x)(hb:¬ x≤9223372036854775807):wrap64 x=x - 18446744073709551616:=by
 have:=hx.2
 unfold wrap64
 omega
theorem schemeOf_1 (w:World):Calls Tryz.prog 81 #[.int .i64 1] w fun e w'=>e=.returned (.tuple #[.iface 143 (.agg #[]),.bool true])∧w'=w:=by
 go_enter Tryz.func81,Tryz.ntmps81
 go_wp2
 go_ret2
 exact ⟨rfl,rfl⟩
theorem schemeOf_2 (w:World):Calls Tryz.prog 81 #[.int .i64 2] w fun e w'=>e=.returned (.tuple #[.iface 144 (.agg #[]),.bool true])∧w'=w:=by
 go_enter Tryz.func81,Tryz.ntmps81
 go_wp2
 go_ret2
 exact ⟨rfl,rfl⟩
theorem schemeOf_o (k:Int)(w:World)(h1:k≠1)(h2:k≠2):Calls Tryz.prog 81 #[.int .i64 k] w fun e w'=>e=.returned (.tuple #[.nilIface,.bool false])∧w'=w:=by
 have z1:(k == 1)=false:=beq_false_of_ne h1
 have z2:(k == 2)=false:=beq_false_of_ne h2
 clear h1 h2
 go_enter Tryz.func81,Tryz.ntmps81
 go_wp2
 go_ret2
 exact ⟨rfl,rfl⟩
def gkP (y h:Int):Prop:=keyP y∧h=0
instance (y h:Int):Decidable (gkP y h):=by unfold gkP; infer_instance
def hbP (h:Int):Prop:=0≤h∧h≤5
instance (h:Int):Decidable (hbP h):=by unfold hbP; infer_instance
def pubP (sc y h:Int):Prop:=(sc=1∧gkP y h)∨(sc=2∧hbP h)
instance (sc y h:Int):Decidable (pubP sc y h):=by unfold pubP; infer_instance
def ifvP (sc:Int):Value:=if sc=1 then .iface 143 (.agg #[]) else if sc=2 then .iface 144 (.agg #[]) else .nilIface
theorem keyP_lt {y:Int}(h:keyP y):2≤y∧y≤1000000006:=by
 have h1:=h.1.1
 have h2:=h.2
 omega
theorem groupPubOk_any (sc y h:Int)(w:World)(hy:U64 y) :
  Calls Tryz.prog 147 #[.agg #[],kpv sc y h] w fun e w'=>e=.returned (.bool (decide (gkP y h)))∧Below w.heap.size w w':=by
 have hbb:Below w.heap.size w ((w.alloc (.cells #[] 143)).alloc (.cells #[.int .i64 sc,.int .u64 y,.int .i64 h] 41)):=two_below _ _ _
 obtain ⟨hx0,hx1⟩:=hy
 unfold kpv
 by_cases hs:keyP y
 ·have hxs:y≤9223372036854775807:=by have:=(keyP_lt hs).2; omega
  by_cases h1:h=0
  ·have HV:Hid (decide (gkP y h)=true):=decide_eq_true ⟨hs,h1⟩
   have z1:(h == 0)=true:=beq_iff_eq.2 h1
   clear h1
   go_enter Tryz.func147,Tryz.ntmps147
   go_wp2_with fail
   refine (isKey_any y _).mono ?_
   rintro e w2 ⟨rfl,rfl⟩
   rw [decide_eq_true hs]
   go_wp2
   go_ret
   exact ⟨by rw [HV.out]; rfl,hbb⟩
  ·have HV:Hid (decide (gkP y h)=false):=decide_eq_false (fun hh=>h1 hh.2)
   have z1:(h == 0)=false:=beq_false_of_ne h1
   clear h1
   go_enter Tryz.func147,Tryz.ntmps147
   go_wp2_with fail
   refine (isKey_any y _).mono ?_
   rintro e w2 ⟨rfl,rfl⟩
   rw [decide_eq_true hs]
   go_wp2
   go_ret
   exact ⟨by rw [HV.out]; rfl,hbb⟩
 ·have HV:Hid (decide (gkP y h)=false):=decide_eq_false (fun hh=>hs hh.1)
  by_cases hxs:y≤9223372036854775807
  ·go_enter Tryz.func147,Tryz.ntmps147
   go_wp2_with fail
   refine (isKey_any y _).mono ?_
   rintro e w2 ⟨rfl,rfl⟩
   rw [decide_eq_false hs]
   go_wp2
   go_ret
   exact ⟨by rw [HV.out]; rfl,hbb⟩
  ·have hwr:=wrap_big ⟨hx0,hx1⟩ hxs
   have hs2:¬ keyP (wrap64 y):=by rw [hwr]; intro hh; have:=(keyP_lt hh).1; omega
   clear hwr
   go_enter Tryz.func147,Tryz.ntmps147
   go_wp2_with fail
   refine (isKey_any (wrap64 y) _).mono ?_
   rintro e w2 ⟨rfl,rfl⟩
   rw [decide_eq_false hs2]
   go_wp2
   go_ret
   exact ⟨by rw [HV.out]; rfl,hbb⟩
theorem treePubOk_any (sc y h:Int)(w:World) :
  Calls Tryz.prog 164 #[.agg #[],kpv sc y h] w fun e w'=>e=.returned (.bool (decide (hbP h)))∧Below w.heap.size w w':=by
 have hbb:Below w.heap.size w ((w.alloc (.cells #[] 144)).alloc (.cells #[.int .i64 sc,.int .u64 y,.int .i64 h] 41)):=two_below _ _ _
 unfold kpv
 by_cases h1:0≤h∧h≤5
 ·have HV:Hid (decide (hbP h)=true):=decide_eq_true h1
  go_enter Tryz.func164,Tryz.ntmps164
  go_wp2_with fail
  refine (inBounds_t h 0 5 _ h1).mono ?_
  rintro e w2 ⟨rfl,rfl⟩
  go_wp2
  go_ret
  exact ⟨by rw [HV.out]; rfl,hbb⟩
 ·have HV:Hid (decide (hbP h)=false):=decide_eq_false h1
  go_enter Tryz.func164,Tryz.ntmps164
  go_wp2_with fail
  refine (inBounds_f h 0 5 _ h1).mono ?_
  rintro e w2 ⟨rfl,rfl⟩
  go_wp2
  go_ret
  exact ⟨by rw [HV.out]; rfl,hbb⟩
theorem pubScheme_any (sc y h:Int)(w:World)(hy:U64 y) :
  Calls Tryz.prog 50 #[kpv sc y h] w fun e w'=>e=.returned (.tuple #[ifvP sc,.bool (decide (pubP sc y h))])∧Below w.heap.size w w':=by
 have hbb:Below w.heap.size w (w.alloc (.cells #[.int .i64 sc,.int .u64 y,.int .i64 h] 41)):=(Below.refl _ _).alloc (Nat.le_refl _) _
 by_cases h1:sc=1
 ·subst h1
  have HV:Hid (decide (pubP 1 y h)=decide (gkP y h)):=by
   show _=_
   exact decide_eq_decide.2 ⟨fun hh=>hh.elim (fun a=>a.2) (fun a=>absurd a.1 (by decide)),fun hh=>.inl ⟨rfl,hh⟩⟩
  have HI:Hid (ifvP 1=.iface 143 (.agg #[])):=rfl
  rw [HI.out,kpv]
  go_enter Tryz.func50,Tryz.ntmps50
  go_wp2_with fail
  refine (schemeOf_1 _).mono ?_
  rintro e w2 ⟨rfl,rfl⟩
  go_wp2_with fail
  refine (groupPubOk_any 1 y h _ hy).mono ?_
  rintro e w3 ⟨rfl,hb3⟩
  go_wp2
  go_ret2
  exact ⟨by rw [HV.out]; rfl,keepT hbb hb3⟩
 by_cases h2:sc=2
 ·subst h2
  have HV:Hid (decide (pubP 2 y h)=decide (hbP h)):=by
   show _=_
   exact decide_eq_decide.2 ⟨fun hh=>hh.elim (fun a=>absurd a.1 (by decide)) (fun a=>a.2),fun hh=>.inr ⟨rfl,hh⟩⟩
  have HI:Hid (ifvP 2=.iface 144 (.agg #[])):=rfl
  rw [HI.out,kpv]
  go_enter Tryz.func50,Tryz.ntmps50
  go_wp2_with fail
  refine (schemeOf_2 _).mono ?_
  rintro e w2 ⟨rfl,rfl⟩
  go_wp2_with fail
  refine (treePubOk_any 2 y h _).mono ?_
  rintro e w3 ⟨rfl,hb3⟩
  go_wp2
  go_ret2
  exact ⟨by rw [HV.out]; rfl,keepT hbb hb3⟩
 ·have HV:Hid (decide (pubP sc y h)=false):=decide_eq_false (fun hh=>hh.elim (fun a=>h1 a.1) (fun a=>h2 a.1))
  have HI:Hid (ifvP sc=.nilIface):=by show _=_; unfold ifvP; rw [if_neg h1,if_neg h2]
  rw [HI.out,kpv]
  go_enter Tryz.func50,Tryz.ntmps50
  go_wp2_with fail
  refine (schemeOf_o sc _ h1 h2).mono ?_
  rintro e w2 ⟨rfl,rfl⟩
  go_wp2
  go_ret2
  exact ⟨by rw [HV.out]; rfl,hbb⟩
theorem l8PubOk_any (sc y h:Int)(w:World)(hy:U64 y) :
  Calls Tryz.prog 31 #[kpv sc y h] w fun e w'=>e=.returned (.bool (decide (pubP sc y h)))∧Below w.heap.size w w':=by
 have hbb:Below w.heap.size w (w.alloc (.cells #[.int .i64 sc,.int .u64 y,.int .i64 h] 41)):=(Below.refl _ _).alloc (Nat.le_refl _) _
 obtain ⟨hy0,hy1⟩:=hy
 unfold kpv
 by_cases h1:sc=1
 ·subst h1
  have HV:Hid (decide (pubP 1 y h)=decide (gkP y h)):=by
   show _=_
   exact decide_eq_decide.2 ⟨fun hh=>hh.elim (fun a=>a.2) (fun a=>absurd a.1 (by decide)),fun hh=>.inl ⟨rfl,hh⟩⟩
  by_cases hh:h=0
  ·have z1:(h == 0)=true:=beq_iff_eq.2 hh
   by_cases hy2:1<y∧y<1000000007
   ·obtain ⟨hy3,hy4⟩:=hy2
    have HK:Hid (decide (gkP y h)=decide (memP y)):=by
     show _=_
     exact decide_eq_decide.2 ⟨fun a=>a.1.1,fun a=>⟨⟨a,by omega⟩,hh⟩⟩
    clear hh
    go_enter Tryz.func31,Tryz.ntmps31
    go_wp2_with fail
    refine (l7Member_any y _).mono ?_
    rintro e w2 ⟨rfl,rfl⟩
    go_wp2
    go_ret
    exact ⟨by rw [HV.out,HK.out]; rfl,hbb⟩
   ·have HK:Hid (decide (gkP y h)=false):=decide_eq_false (fun a=>hy2 (by have:=keyP_lt a.1; omega))
    by_cases hy3:1<y
    ·have hy4:¬ (y<1000000007):=fun a=>hy2 ⟨hy3,a⟩
     clear hh hy2
     go_enter Tryz.func31,Tryz.ntmps31
     go_wp2
     go_ret
     exact ⟨by rw [HV.out,HK.out]; rfl,hbb⟩
    ·clear hh hy2
     go_enter Tryz.func31,Tryz.ntmps31
     go_wp2
     go_ret
     exact ⟨by rw [HV.out,HK.out]; rfl,hbb⟩
  ·have z1:(h == 0)=false:=beq_false_of_ne hh
   have HK:Hid (decide (gkP y h)=false):=decide_eq_false (fun a=>hh a.2)
   clear hh
   go_enter Tryz.func31,Tryz.ntmps31
   go_wp2
   go_ret
   exact ⟨by rw [HV.out,HK.out]; rfl,hbb⟩
 ·have z0:(sc == 1)=false:=beq_false_of_ne h1
  by_cases h2:sc=2
  ·have z2:(sc == 2)=true:=beq_iff_eq.2 h2
   by_cases h3:0≤h∧h≤5
   ·have HV:Hid (decide (pubP sc y h)=true):=decide_eq_true (.inr ⟨h2,h3⟩)
    clear h1 h2
    go_enter Tryz.func31,Tryz.ntmps31
    go_wp2_with fail
    refine (l1In_t h 0 5 _ h3).mono ?_
    rintro e w2 ⟨rfl,rfl⟩
    go_wp2
    go_ret
    exact ⟨by rw [HV.out]; rfl,hbb⟩
   ·have HV:Hid (decide (pubP sc y h)=false):=decide_eq_false (fun hh=>hh.elim (fun a=>h1 a.1) (fun a=>h3 a.2))
    clear h1 h2
    go_enter Tryz.func31,Tryz.ntmps31
    go_wp2_with fail
    refine (l1In_f h 0 5 _ h3).mono ?_
    rintro e w2 ⟨rfl,rfl⟩
    go_wp2
    go_ret
    exact ⟨by rw [HV.out]; rfl,hbb⟩
  ·have z2:(sc == 2)=false:=beq_false_of_ne h2
   have HV:Hid (decide (pubP sc y h)=false):=decide_eq_false (fun hh=>hh.elim (fun a=>h1 a.1) (fun a=>h2 a.1))
   clear h1 h2
   go_enter Tryz.func31,Tryz.ntmps31
   go_wp2
   go_ret
   exact ⟨by rw [HV.out]; rfl,hbb⟩
theorem results_kp {fn:Func}{t:Tmp}(h:fn.results=#[.cell t 41])(tmps:Array Value)(g:Nat)(ht:tmps.getD t undef=.pointer (some ⟨g,0,none⟩))(w:World)(c0 c1 c2:Value)
  (hb:w.heap[g]? = some (.cells #[c0,c1,c2] 41 (0,0))):(results fn tmps).run Tryz.prog w=.ok (.agg #[c0,c1,c2]) w:=by
 have d0:w.cell? ⟨g,0,none⟩=some c0:=(cell_of_row _ g 0 _ 41 (0,0) hb).trans rfl
 have d1:w.cell? ⟨g,1,none⟩=some c1:=(cell_of_row _ g 1 _ 41 (0,0) hb).trans rfl
 have d2:w.cell? ⟨g,2,none⟩=some c2:=(cell_of_row _ g 2 _ 41 (0,0) hb).trans rfl
 clear hb
 have ht':tmps[t]?.getD undef=.pointer (some ⟨g,0,none⟩):=by rw [← ht]; simp
 simp [results,h,go_sem,ht',d0,d1,d2]
theorem toPub_any (a b c:Int)(w:World) :
  Calls Tryz.prog 7 #[kpv a b c] w fun e w'=>e=.returned (kpv a b c)∧Below w.heap.size w w':=by
 have b1:((((w.alloc (.cells #[.int .i64 a,.int .u64 b,.int .i64 c] 31)).alloc (.cells #[.int .i64 a,.int .u64 b,.int .i64 c] 41)).alloc (.cells #[.int .i64 a,.int .u64 b,.int .i64 c] 41))).heap[w.heap.size+1]? = some (.cells #[.int .i64 a,.int .u64 b,.int .i64 c] 41):=by
  have s1:(w.alloc (.cells #[.int .i64 a,.int .u64 b,.int .i64 c] 31)).heap.size=w.heap.size+1:=by simp
  exact (alloc_oldT _ _ _ (by simp)).trans (by rw [← s1]; exact heap_alloc_new _ _)
 have HB1:Hid (_=_):=b1
 clear b1
 unfold kpv
 go_enter Tryz.func7,Tryz.ntmps7
 go_wp2
 try simp only [Exit.inBlock,Exit.then]
 exact bodyPost_ret (results_kp rfl _ (w.heap.size+1) rfl _ _ _ _ HB1.out) rfl ⟨rfl,(((Below.refl _ _).alloc (Nat.le_refl _) _).alloc (by simp) _).alloc (by simp; omega) _⟩
end Go.Proofs.YtkdandggklpppaaGreatDoor
