import Derived.Test.YtmdfbnlgfhjnoaaGreatDoorFD31
set_option maxRecDepth 10000
set_option maxHeartbeats 8000000
set_option linter.unusedVariables false
namespace Go.Proofs.YtmdfbnlgfhjnoaaGreatDoor
open Go.RowKit
theorem ceDrew {B:Nat}{w w':World}(h:Below B w w')(n:Nat):Below B w (w'.drewN n):=by
 induction n with
 | zero=>simpa [World.drewN] using h
 | succ n ih=>exact ih.drew
theorem ceBool {f:Nat}{args:Array Value}{w:World}{P:Prop}[Decidable P]{b:Bool}(h:Calls Tryz.prog f args w fun e w'=>e=.returned (.bool (decide P))∧w=w')(hb:decide P=b):Calls Tryz.prog f args w fun e w'=>e=.returned (.bool b)∧w'=w:=h.mono fun e w' q=>⟨by rw [q.1,hb],q.2.symm⟩
theorem calls_boolC {f:Nat}{args:Array Value}{w:World}{P:Prop}[Decidable P]{b:Bool}(h:Calls Tryz.prog f args w fun e w'=>e=.returned (.bool (decide P))∧w'=w)(hb:decide P=b):Calls Tryz.prog f args w fun e w'=>e=.returned (.bool b)∧w'=w:=by rw [hb] at h; exact h
def PolN (zs:List Int)(k:Nat):Prop:=∀ j,j<k→(0≤zs.getD j 0∧zs.getD j 0≤1000)∧zs.getD j 0∉zs.take j
theorem specCertOk_any (s:CES)(x:CE)(w:World)(h:CER w s x)(hz:CEZ x)(ht:CET s)(hu:U64 x.key.2.1) :
  Calls Tryz.prog 35 #[CEv s x] w (Says (ceP x) w):=by
 obtain ⟨a1,n1,c1,a2,n2,c2,a3,n3,c3,a4,n4,c4,a5,n5,c5,a6,n6,c6,a7,n7,c7,a8,n8,c8,a9,n9,c9⟩:=s
 have HK:Hid (CER w ⟨a1,n1,c1,a2,n2,c2,a3,n3,c3,a4,n4,c4,a5,n5,c5,a6,n6,c6,a7,n7,c7,a8,n8,c8,a9,n9,c9⟩ x):=h
 have HZ:Hid ((n1≤1048576∧(∀ k,k<n1→(x.iss.getD k default).val.size≤1048576))∧(n2≤1048576∧(∀ k,k<n2→(x.sub.getD k default).val.size≤1048576))∧(n3≤1048576∧(∀ k,k<n3→GeOk (x.nms.getD k default)))∧(n4≤1048576∧(∀ k,k<n4→GeOk (x.per.getD k default)))∧(n5≤1048576∧(∀ k,k<n5→GeOk (x.den.getD k default)))∧(n6≤1048576)∧(n7≤1048576)∧(n8≤1048576∧(∀ k,k<n8→XPZ (x.ext.getD k default)))∧(n9≤1048576)):=h.zn.1 hz
 have HL1:Hid (x.iss.length=n1):=h.r1.len
 have HL2:Hid (x.sub.length=n2):=h.r2.len
 have HL3:Hid (x.nms.length=n3):=h.r3.len
 have HL4:Hid (x.per.length=n4):=h.r4.len
 have HL5:Hid (x.den.length=n5):=h.r5.len
 have HL6:Hid (x.pol.length=n6):=h.r6.len
 have HL7:Hid (x.maps.length=n7):=h.r7.len
 have HL8:Hid (x.ext.length=n8):=h.r8.len
 have HL9:Hid (x.sig.length=n9):=h.r9.len
 have HKN:Hid (∀ W,Below w.heap.size w W→CER W ⟨a1,n1,c1,a2,n2,c2,a3,n3,c3,a4,n4,c4,a5,n5,c5,a6,n6,c6,a7,n7,c7,a8,n8,c8,a9,n9,c9⟩ x):=fun W hW=>h.kept hW
 have HX6:Hid (n6≤9223372036854775807):=h.m6
 have HX9:Hid (n9≤9223372036854775807):=h.m9
 have HC6:Hid (n6≤c6):=by have h2:c6=n6:=ht.2.2.2.2.2.1; show n6≤c6; omega
 clear h hz ht
 show Calls Tryz.prog 35 #[.agg #[.int .i64 x.ser,.slice a1 n1 c1,.slice a2 n2 c2,.int .i64 x.frm,.int .i64 x.til,.int .i64 x.key.1,.int .u64 x.key.2.1,.int .i64 x.key.2.2,.bool x.ca,.int .i64 x.room,.int .i64 x.uses,.slice a3 n3 c3,.slice a4 n4 c4,.slice a5 n5 c5,.slice a6 n6 c6,.slice a7 n7 c7,.int .i64 x.need,.int .i64 x.nomap,.int .i64 x.noany,.slice a8 n8 c8,.slice a9 n9 c9]] w _
 obtain ⟨w0,hw0⟩:∃ w0,w0=w.alloc (.cells #[.int .i64 x.ser,.slice a1 n1 c1,.slice a2 n2 c2,.int .i64 x.frm,.int .i64 x.til,.int .i64 x.key.1,.int .u64 x.key.2.1,.int .i64 x.key.2.2,.bool x.ca,.int .i64 x.room,.int .i64 x.uses,.slice a3 n3 c3,.slice a4 n4 c4,.slice a5 n5 c5,.slice a6 n6 c6,.slice a7 n7 c7,.int .i64 x.need,.int .i64 x.nomap,.int .i64 x.noany,.slice a8 n8 c8,.slice a9 n9 c9] 46):=⟨_,rfl⟩
 have B0:Hid (Below w.heap.size w w0):=by show Below _ _ _; rw [hw0]; exact (Below.refl _ _).alloc (Nat.le_refl _) _
 have Y0:Hid (w0.heap[w.heap.size]? = some (.cells #[.int .i64 x.ser,.slice a1 n1 c1,.slice a2 n2 c2,.int .i64 x.frm,.int .i64 x.til,.int .i64 x.key.1,.int .u64 x.key.2.1,.int .i64 x.key.2.2,.bool x.ca,.int .i64 x.room,.int .i64 x.uses,.slice a3 n3 c3,.slice a4 n4 c4,.slice a5 n5 c5,.slice a6 n6 c6,.slice a7 n7 c7,.int .i64 x.need,.int .i64 x.nomap,.int .i64 x.noany,.slice a8 n8 c8,.slice a9 n9 c9] 46)):=by show _=_; rw [hw0]; exact heap_alloc_new w _
 go_enter Tryz.func35,Tryz.ntmps35
 go_upto_region 1 with fail
 rw [← hw0]
 clear hw0
 have p0:w0.cell? ⟨w.heap.size,0,none⟩=some (.int .i64 x.ser):=qk Y0.out rfl
 go_wp2_with fail
 by_cases q1:1≤x.ser∧x.ser≤4611686018427387904
 case neg =>
  refine (l1In_any x.ser 1 4611686018427387904 _).mono ?_
  rintro e w9_ ⟨rfl,hw9⟩
  subst hw9
  rw [decide_eq_false q1]
  have HN:Hid (¬ ceP x):=fun q=>q1 q.1
  clear q1
  go_wp2
  go_ret
  exact says_f HN.out B0.out
 refine (l1In_any x.ser 1 4611686018427387904 _).mono ?_
 rintro e w9_ ⟨rfl,hw9⟩
 subst hw9
 rw [decide_eq_true q1]
 have Hq1:Hid (1≤x.ser∧x.ser≤4611686018427387904):=q1
 clear q1
 have p1:w0.cell? ⟨w.heap.size,1,none⟩=some (.slice a1 n1 c1):=qk Y0.out rfl
 go_wp2_with fail
 refine (specNameOk_any a1 n1 c1 x.iss _ ((HKN.out _ B0.out).r1) HZ.out.1.2).mono ?_
 rintro e w1 ⟨v_,rfl,hv_,hb_⟩
 have B1:Hid (Below w.heap.size w w1):=B0.out.trans (hb_.mono B0.out.size)
 have Y1:Hid (w1.heap[w.heap.size]? = some (.cells #[.int .i64 x.ser,.slice a1 n1 c1,.slice a2 n2 c2,.int .i64 x.frm,.int .i64 x.til,.int .i64 x.key.1,.int .u64 x.key.2.1,.int .i64 x.key.2.2,.bool x.ca,.int .i64 x.room,.int .i64 x.uses,.slice a3 n3 c3,.slice a4 n4 c4,.slice a5 n5 c5,.slice a6 n6 c6,.slice a7 n7 c7,.int .i64 x.need,.int .i64 x.nomap,.int .i64 x.noany,.slice a8 n8 c8,.slice a9 n9 c9] 46)):=(hb_.block _ (Array.getElem?_eq_some_iff.1 Y0.out).1).trans Y0.out
 have HV:Hid _:=hv_
 clear hv_ hb_
 clear p0 p1
 rcases v_ with _ | _
 ·have HN:Hid (¬ ceP x):=fun q=>by have:=HV.out.2 (q.2.1.1); cases this
  go_wp2
  go_ret
  exact says_f HN.out B1.out
 have Hq2:Hid (nameP x.iss):=HV.out.1 rfl
 clear HV
 have p1:w1.cell? ⟨w.heap.size,1,none⟩=some (.slice a1 n1 c1):=qk Y1.out rfl
 have hx1:n1≤1048576:=HZ.out.1.1
 by_cases e1:n1=0
 case pos =>
  have he1:((n1:Int) == 0)=true:=by simp [e1]
  have HE1:Hid (n1=0):=e1
  clear e1
  have HN:Hid (¬ ceP x):=fun q=>q.2.1.2 (List.eq_nil_of_length_eq_zero (by rw [HL1.out]; exact HE1.out))
  go_wp2
  go_ret
  exact says_f HN.out B1.out
 have he1:((n1:Int) == 0)=false:=by simp [e1]
 have HNE:Hid (x.iss≠[]):=fun q=>e1 (by rw [← HL1.out,q]; rfl)
 clear e1
 have p2:w1.cell? ⟨w.heap.size,2,none⟩=some (.slice a2 n2 c2):=qk Y1.out rfl
 go_wp2_with fail
 refine (specNameOk_any a2 n2 c2 x.sub _ ((HKN.out _ B1.out).r2) HZ.out.2.1.2).mono ?_
 rintro e w2 ⟨v_,rfl,hv_,hb_⟩
 have B2:Hid (Below w.heap.size w w2):=B1.out.trans (hb_.mono B1.out.size)
 have Y2:Hid (w2.heap[w.heap.size]? = some (.cells #[.int .i64 x.ser,.slice a1 n1 c1,.slice a2 n2 c2,.int .i64 x.frm,.int .i64 x.til,.int .i64 x.key.1,.int .u64 x.key.2.1,.int .i64 x.key.2.2,.bool x.ca,.int .i64 x.room,.int .i64 x.uses,.slice a3 n3 c3,.slice a4 n4 c4,.slice a5 n5 c5,.slice a6 n6 c6,.slice a7 n7 c7,.int .i64 x.need,.int .i64 x.nomap,.int .i64 x.noany,.slice a8 n8 c8,.slice a9 n9 c9] 46)):=(hb_.block _ (Array.getElem?_eq_some_iff.1 Y1.out).1).trans Y1.out
 have HV:Hid _:=hv_
 clear hv_ hb_
 clear p1 p2
 rcases v_ with _ | _
 ·have HN:Hid (¬ ceP x):=fun q=>by have:=HV.out.2 (q.2.2.1.1); cases this
  go_wp2
  go_ret
  exact says_f HN.out B2.out
 have Hq3:Hid (nameP x.sub):=HV.out.1 rfl
 clear HV
 have p2:w2.cell? ⟨w.heap.size,2,none⟩=some (.slice a2 n2 c2):=qk Y2.out rfl
 have p11:w2.cell? ⟨w.heap.size,11,none⟩=some (.slice a3 n3 c3):=qk Y2.out rfl
 have hx2:n2≤1048576:=HZ.out.2.1.1
 have hx3:n3≤1048576:=HZ.out.2.2.1.1
 clear he1
 by_cases e2:n2=0
 ·have he2:((n2:Int) == 0)=true:=by simp [e2]
  have HE2:Hid (n2=0):=e2
  clear e2
  by_cases e3:n3=0
  case pos =>
   have he3:((n3:Int) == 0)=true:=by simp [e3]
   have HE3:Hid (n3=0):=e3
   clear e3
   have HN:Hid (¬ ceP x):=fun q=>by rcases q.2.2.1.2.1 with q | q; exact q (List.eq_nil_of_length_eq_zero (by rw [HL2.out]; exact HE2.out)); exact q (List.eq_nil_of_length_eq_zero (by rw [HL3.out]; exact HE3.out))
   go_wp2
   go_ret
   exact says_f HN.out B2.out
  have he3:((n3:Int) == 0)=false:=by simp [e3]
  have HOR:Hid (x.sub≠[]∨x.nms≠[]):=.inr (fun q=>e3 (by rw [← HL3.out,q]; rfl))
  clear e3
  go_upto_region 3 with fail
  clear p2 p11
  have p3:w2.cell? ⟨w.heap.size,3,none⟩=some (.int .i64 x.frm):=qk Y2.out rfl
  go_wp2_with fail
  by_cases q4:0≤x.frm∧x.frm≤253402300799
  case neg =>
   refine (l1In_any x.frm 0 253402300799 _).mono ?_
   rintro e w9_ ⟨rfl,hw9⟩
   subst hw9
   rw [decide_eq_false q4]
   have HN:Hid (¬ ceP x):=fun q=>q4 q.2.2.2.1.1
   clear q4
   go_wp2
   go_ret
   exact says_f HN.out B2.out
  refine (l1In_any x.frm 0 253402300799 _).mono ?_
  rintro e w9_ ⟨rfl,hw9⟩
  subst hw9
  rw [decide_eq_true q4]
  have Hq4:Hid (0≤x.frm∧x.frm≤253402300799):=q4
  clear q4
  have p4:w2.cell? ⟨w.heap.size,4,none⟩=some (.int .i64 x.til):=qk Y2.out rfl
  go_wp2_with fail
  by_cases q5:0≤x.til∧x.til≤253402300799
  case neg =>
   refine (l1In_any x.til 0 253402300799 _).mono ?_
   rintro e w9_ ⟨rfl,hw9⟩
   subst hw9
   rw [decide_eq_false q5]
   have HN:Hid (¬ ceP x):=fun q=>q5 q.2.2.2.1.2.1
   clear q5
   go_wp2
   go_ret
   exact says_f HN.out B2.out
  refine (l1In_any x.til 0 253402300799 _).mono ?_
  rintro e w9_ ⟨rfl,hw9⟩
  subst hw9
  rw [decide_eq_true q5]
  have Hq5:Hid (0≤x.til∧x.til≤253402300799):=q5
  clear q5
  by_cases cft:x.til<x.frm
  case pos =>
   have HN:Hid (¬ ceP x):=fun q=>by have:=q.2.2.2.1.2.2; omega
   go_wp2
   go_ret
   exact says_f HN.out B2.out
  have HSP:Hid (x.frm≤x.til):=by show x.frm≤x.til; omega
  have p5:w2.cell? ⟨w.heap.size,5,none⟩=some (.int .i64 x.key.1):=qk Y2.out rfl
  have p6:w2.cell? ⟨w.heap.size,6,none⟩=some (.int .u64 x.key.2.1):=qk Y2.out rfl
  have p7:w2.cell? ⟨w.heap.size,7,none⟩=some (.int .i64 x.key.2.2):=qk Y2.out rfl
  go_wp2_with fail
  refine (l8PubOk_any x.key.1 x.key.2.1 x.key.2.2 _ hu).mono ?_
  rintro e w3 ⟨rfl,hb_⟩
  have B3:Hid (Below w.heap.size w w3):=B2.out.trans (hb_.mono B2.out.size)
  have Y3:Hid (w3.heap[w.heap.size]? = some (.cells #[.int .i64 x.ser,.slice a1 n1 c1,.slice a2 n2 c2,.int .i64 x.frm,.int .i64 x.til,.int .i64 x.key.1,.int .u64 x.key.2.1,.int .i64 x.key.2.2,.bool x.ca,.int .i64 x.room,.int .i64 x.uses,.slice a3 n3 c3,.slice a4 n4 c4,.slice a5 n5 c5,.slice a6 n6 c6,.slice a7 n7 c7,.int .i64 x.need,.int .i64 x.nomap,.int .i64 x.noany,.slice a8 n8 c8,.slice a9 n9 c9] 46)):=(hb_.block _ (Array.getElem?_eq_some_iff.1 Y2.out).1).trans Y2.out
  clear hb_
  clear p3 p4 p5 p6 p7
  by_cases q6:pubP x.key.1 x.key.2.1 x.key.2.2
  case neg =>
   rw [decide_eq_false q6]
   have HN:Hid (¬ ceP x):=fun q=>q6 (q.2.2.2.2.1)
   clear q6
   go_wp2
   go_ret
   exact says_f HN.out B3.out
  rw [decide_eq_true q6]
  have Hq6:Hid (pubP x.key.1 x.key.2.1 x.key.2.2):=q6
  clear q6
  have p10:w3.cell? ⟨w.heap.size,10,none⟩=some (.int .i64 x.uses):=qk Y3.out rfl
  go_wp2_with fail
  by_cases q7:0≤x.uses∧x.uses≤255
  case neg =>
   refine (l1In_any x.uses 0 255 _).mono ?_
   rintro e w9_ ⟨rfl,hw9⟩
   subst hw9
   rw [decide_eq_false q7]
   have HN:Hid (¬ ceP x):=fun q=>q7 q.2.2.2.2.2.1
   clear q7
   go_wp2
   go_ret
   exact says_f HN.out B3.out
  refine (l1In_any x.uses 0 255 _).mono ?_
  rintro e w9_ ⟨rfl,hw9⟩
  subst hw9
  rw [decide_eq_true q7]
  have Hq7:Hid (0≤x.uses∧x.uses≤255):=q7
  clear q7
  have p11:w3.cell? ⟨w.heap.size,11,none⟩=some (.slice a3 n3 c3):=qk Y3.out rfl
  go_wp2_with fail
  refine (l9Gens_any a3 n3 c3 x.nms _ ((HKN.out _ B3.out).r3) HZ.out.2.2.1.2).mono ?_
  rintro e w4 ⟨v_,rfl,hv_,hb_⟩
  have B4:Hid (Below w.heap.size w w4):=B3.out.trans (hb_.mono B3.out.size)
  have Y4:Hid (w4.heap[w.heap.size]? = some (.cells #[.int .i64 x.ser,.slice a1 n1 c1,.slice a2 n2 c2,.int .i64 x.frm,.int .i64 x.til,.int .i64 x.key.1,.int .u64 x.key.2.1,.int .i64 x.key.2.2,.bool x.ca,.int .i64 x.room,.int .i64 x.uses,.slice a3 n3 c3,.slice a4 n4 c4,.slice a5 n5 c5,.slice a6 n6 c6,.slice a7 n7 c7,.int .i64 x.need,.int .i64 x.nomap,.int .i64 x.noany,.slice a8 n8 c8,.slice a9 n9 c9] 46)):=(hb_.block _ (Array.getElem?_eq_some_iff.1 Y3.out).1).trans Y3.out
  have HV:Hid _:=hv_
  clear hv_ hb_
  clear p10 p11
  rcases v_ with _ | _
  ·have HN:Hid (¬ ceP x):=fun q=>by have:=HV.out.2 (by have h1:=q.2.2.1.2.2; rw [HL3.out] at h1; exact h1); cases this
   go_wp2
   go_ret
   exact says_f HN.out B4.out
  have Hq8:Hid (gensP x.nms n3):=HV.out.1 rfl
  clear HV
  have p14:w4.cell? ⟨w.heap.size,14,none⟩=some (.slice a6 n6 c6):=qk Y4.out rfl
  have p19:w4.cell? ⟨w.heap.size,19,none⟩=some (.slice a8 n8 c8):=qk Y4.out rfl
  have p20:w4.cell? ⟨w.heap.size,20,none⟩=some (.slice a9 n9 c9):=qk Y4.out rfl
  clear cft
  have hx6:=HX6.out
  have hx8:=HK.out.r8.max
  have hx9:=HX9.out
  by_cases g6:(6:Int)<(n6:Int)
  case pos =>
   have HN:Hid (¬ ceP x):=fun q=>by have:=q.2.2.2.2.2.2.1.1; rw [HL6.out] at this; omega
   go_wp2
   go_ret
   exact says_f HN.out B4.out
  by_cases g8:(4:Int)<(n8:Int)
  case pos =>
   have HN:Hid (¬ ceP x):=fun q=>by have:=q.2.2.2.2.2.2.2.1.1; rw [HL8.out] at this; omega
   go_wp2
   go_ret
   exact says_f HN.out B4.out
  by_cases g9:(500:Int)<(n9:Int)
  case pos =>
   have HN:Hid (¬ ceP x):=fun q=>by have:=q.2.2.2.2.2.2.2.2.1; rw [HL9.out] at this; omega
   go_wp2
   go_ret
   exact says_f HN.out B4.out
  have hn6:n6≤6:=by omega
  have hn8:n8≤4:=by omega
  have HSG:Hid (x.sig.length≤500):=by show x.sig.length≤500; rw [HL9.out]; omega
  go_wp2
  clear p14 p19 p20 g6 g8 g9
  go_loopw [3] (fun i wr=>∃ k:Nat,k≤n6∧i=.int .i64 k∧Hid (PolN x.pol k)∧Below w4.heap.size w4 wr) (fun i _=>n6 - (intOf i).toNat)
  case atStart=>exact ⟨0,Nat.zero_le _,rfl,fun j hj=>absurd hj (Nat.not_lt_zero _),Below.refl _ _⟩
  case round =>
   obtain ⟨wa,hwa⟩:∃ wa,wa=wr:=⟨_,rfl⟩
   subst hwa
   obtain ⟨k,hk,rfl,HA,hbr⟩:=hrel
   have Ba:Hid (Below w.heap.size w wa):=B4.out.trans (hbr.mono B4.out.size)
   have Ya:Hid (wa.heap[w.heap.size]? = some (.cells #[.int .i64 x.ser,.slice a1 n1 c1,.slice a2 n2 c2,.int .i64 x.frm,.int .i64 x.til,.int .i64 x.key.1,.int .u64 x.key.2.1,.int .i64 x.key.2.2,.bool x.ca,.int .i64 x.room,.int .i64 x.uses,.slice a3 n3 c3,.slice a4 n4 c4,.slice a5 n5 c5,.slice a6 n6 c6,.slice a7 n7 c7,.int .i64 x.need,.int .i64 x.nomap,.int .i64 x.noany,.slice a8 n8 c8,.slice a9 n9 c9] 46)):=(hbr.block _ (Array.getElem?_eq_some_iff.1 Y4.out).1).trans Y4.out
   by_cases hlt:k<n6
   case neg =>
    have hkn':k=n6:=by omega
    have hki:¬ ((k:Int)<(n6:Int)):=by omega
    have HPL:Hid (polsP x.pol):=⟨by rw [HL6.out]; exact hn6,fun j hj=>(HA.out j (by rw [hkn',← HL6.out]; exact hj)).1,fun j hj=>(HA.out j (by rw [hkn',← HL6.out]; exact hj)).2⟩
    have p14:wa.cell? ⟨w.heap.size,14,none⟩=some (.slice a6 n6 c6):=qk Ya.out rfl
    clear HA hkn'
    go_wp2
    clear p14
    go_loopw [4] (fun i wr=>∃ k:Nat,k≤n8∧i=.int .i64 k∧Hid (∀ j,j<k→extAt x.ext j)∧Below wa.heap.size wa wr) (fun i _=>n8 - (intOf i).toNat)
    case atStart=>exact ⟨0,Nat.zero_le _,rfl,fun j hj=>absurd hj (Nat.not_lt_zero _),Below.refl _ _⟩
    case round =>
     obtain ⟨wb,hwb⟩:∃ wb,wb=wr:=⟨_,rfl⟩
     subst hwb
     obtain ⟨k,hk,rfl,HE,hbr⟩:=hrel
     have Br:Hid (Below w.heap.size w wb):=Ba.out.trans (hbr.mono Ba.out.size)
     have Yr:Hid (wb.heap[w.heap.size]? = some (.cells #[.int .i64 x.ser,.slice a1 n1 c1,.slice a2 n2 c2,.int .i64 x.frm,.int .i64 x.til,.int .i64 x.key.1,.int .u64 x.key.2.1,.int .i64 x.key.2.2,.bool x.ca,.int .i64 x.room,.int .i64 x.uses,.slice a3 n3 c3,.slice a4 n4 c4,.slice a5 n5 c5,.slice a6 n6 c6,.slice a7 n7 c7,.int .i64 x.need,.int .i64 x.nomap,.int .i64 x.noany,.slice a8 n8 c8,.slice a9 n9 c9] 46)):=(hbr.block _ (Array.getElem?_eq_some_iff.1 Ya.out).1).trans Ya.out
     by_cases hkn:k<n8
     case neg =>
      have hkn':k=n8:=by omega
      have hki:¬ ((k:Int)<(n8:Int)):=by omega
      have HEX:Hid (extsP x.ext):=⟨by rw [HL8.out]; exact hn8,fun j hj=>HE.out j (by rw [hkn',← HL8.out]; exact hj)⟩
      have p19:wb.cell? ⟨w.heap.size,19,none⟩=some (.slice a8 n8 c8):=qk Yr.out rfl
      clear HE hkn'
      go_upto_region 18 with fail
      clear p19
      have B100:Hid (Below w.heap.size w wb):=Br
      have Y100:Hid (wb.heap[w.heap.size]? = some (.cells #[.int .i64 x.ser,.slice a1 n1 c1,.slice a2 n2 c2,.int .i64 x.frm,.int .i64 x.til,.int .i64 x.key.1,.int .u64 x.key.2.1,.int .i64 x.key.2.2,.bool x.ca,.int .i64 x.room,.int .i64 x.uses,.slice a3 n3 c3,.slice a4 n4 c4,.slice a5 n5 c5,.slice a6 n6 c6,.slice a7 n7 c7,.int .i64 x.need,.int .i64 x.nomap,.int .i64 x.noany,.slice a8 n8 c8,.slice a9 n9 c9] 46)):=Yr.out
      obtain ⟨w100,hw100⟩:∃ w100,w100=wb:=⟨_,rfl⟩
      rw [← hw100] at B100 Y100 ⊢
      clear hw100
      rcases hca:x.ca with _ | _
      ·have HCA:Hid (x.ca=false):=hca
       have p8:w100.cell? ⟨w.heap.size,8,none⟩=some (.bool false):=by rw [← hca]; exact (cell_of_row _ _ 8 _ 46 (0,0) Y100.out).trans rfl
       clear hca
       have p9:w100.cell? ⟨w.heap.size,9,none⟩=some (.int .i64 x.room):=qk Y100.out rfl
       have p16:w100.cell? ⟨w.heap.size,16,none⟩=some (.int .i64 x.need):=qk Y100.out rfl
       have p17:w100.cell? ⟨w.heap.size,17,none⟩=some (.int .i64 x.nomap):=qk Y100.out rfl
       have p18:w100.cell? ⟨w.heap.size,18,none⟩=some (.int .i64 x.noany):=qk Y100.out rfl
       have p12:w100.cell? ⟨w.heap.size,12,none⟩=some (.slice a4 n4 c4):=qk Y100.out rfl
       have p13:w100.cell? ⟨w.heap.size,13,none⟩=some (.slice a5 n5 c5):=qk Y100.out rfl
       have p15:w100.cell? ⟨w.heap.size,15,none⟩=some (.slice a7 n7 c7):=qk Y100.out rfl
       by_cases e_room:x.room = -1
       case neg =>
        have hne:(x.room == -1)=false:=by simp [e_room]
        have HN:Hid (¬ ceP x):=fun q=>e_room (q.2.2.2.2.2.2.2.2.2.1 HCA.out).1
        go_wp2
        go_ret
        exact says_f HN.out B100.out
       have h_room:(x.room == -1)=true:=by simp [e_room]
       have H_room:Hid (x.room = -1):=e_room
       clear e_room
       by_cases e_need:x.need = -1
       case neg =>
        have hne:(x.need == -1)=false:=by simp [e_need]
        have HN:Hid (¬ ceP x):=fun q=>e_need (q.2.2.2.2.2.2.2.2.2.1 HCA.out).2.1
        go_wp2
        go_ret
        exact says_f HN.out B100.out
       have h_need:(x.need == -1)=true:=by simp [e_need]
       have H_need:Hid (x.need = -1):=e_need
       clear e_need
       by_cases e_nomap:x.nomap = -1
       case neg =>
        have hne:(x.nomap == -1)=false:=by simp [e_nomap]
        have HN:Hid (¬ ceP x):=fun q=>e_nomap (q.2.2.2.2.2.2.2.2.2.1 HCA.out).2.2.1
        go_wp2
        go_ret
        exact says_f HN.out B100.out
       have h_nomap:(x.nomap == -1)=true:=by simp [e_nomap]
       have H_nomap:Hid (x.nomap = -1):=e_nomap
       clear e_nomap
       by_cases e_noany:x.noany = -1
       case neg =>
        have hne:(x.noany == -1)=false:=by simp [e_noany]
        have HN:Hid (¬ ceP x):=fun q=>e_noany (q.2.2.2.2.2.2.2.2.2.1 HCA.out).2.2.2.1
        go_wp2
        go_ret
        exact says_f HN.out B100.out
       have h_noany:(x.noany == -1)=true:=by simp [e_noany]
       have H_noany:Hid (x.noany = -1):=e_noany
       clear e_noany
       by_cases e4_:n4=0
       case neg =>
        have hne:((n4:Int) == 0)=false:=by simp [e4_]
        have HN:Hid (¬ ceP x):=fun q=>e4_ (by rw [← HL4.out]; exact (q.2.2.2.2.2.2.2.2.2.1 HCA.out).2.2.2.2.1)
        go_wp2
        go_ret
        exact says_f HN.out B100.out
       have h4_:((n4:Int) == 0)=true:=by simp [e4_]
       have H4_:Hid (n4=0):=e4_
       clear e4_
       by_cases e5_:n5=0
       case neg =>
        have hne:((n5:Int) == 0)=false:=by simp [e5_]
        have HN:Hid (¬ ceP x):=fun q=>e5_ (by rw [← HL5.out]; exact (q.2.2.2.2.2.2.2.2.2.1 HCA.out).2.2.2.2.2.1)
        go_wp2
        go_ret
        exact says_f HN.out B100.out
       have h5_:((n5:Int) == 0)=true:=by simp [e5_]
       have H5_:Hid (n5=0):=e5_
       clear e5_
       by_cases e7_:n7=0
       case neg =>
        have hne:((n7:Int) == 0)=false:=by simp [e7_]
        have HN:Hid (¬ ceP x):=fun q=>e7_ (by rw [← HL7.out]; exact (q.2.2.2.2.2.2.2.2.2.1 HCA.out).2.2.2.2.2.2)
        go_wp2
        go_ret
        exact says_f HN.out B100.out
       have h7_:((n7:Int) == 0)=true:=by simp [e7_]
       have H7_:Hid (n7=0):=e7_
       clear e7_
       have HT:Hid (ceP x):=⟨Hq1.out,⟨Hq2.out,HNE.out⟩,⟨Hq3.out,HOR.out,by rw [HL3.out]; exact Hq8.out⟩,⟨Hq4.out,Hq5.out,HSP.out⟩,Hq6.out,Hq7.out,HPL.out,HEX.out,HSG.out,⟨fun _=>⟨H_room.out,H_need.out,H_nomap.out,H_noany.out,by rw [HL4.out]; exact H4_.out,by rw [HL5.out]; exact H5_.out,by rw [HL7.out]; exact H7_.out⟩,fun e=>by rw [HCA.out] at e; cases e⟩⟩
       go_wp2
       go_ret
       exact says_t HT.out B100.out
      ·have HCA:Hid (x.ca=true):=hca
       have p8:w100.cell? ⟨w.heap.size,8,none⟩=some (.bool true):=by rw [← hca]; exact (cell_of_row _ _ 8 _ 46 (0,0) Y100.out).trans rfl
       clear hca
       have p15:w100.cell? ⟨w.heap.size,15,none⟩=some (.slice a7 n7 c7):=qk Y100.out rfl
       by_cases g7:(6:Int)<(n7:Int)
       case pos =>
        have HN:Hid (¬ ceP x):=fun q=>by have:=(q.2.2.2.2.2.2.2.2.2.2 HCA.out).2.2.2.2.2.2.1; rw [HL7.out] at this; omega
        go_wp2
        go_ret
        exact says_f HN.out B100.out
       have hn7:n7≤6:=by omega
       go_wp2
       clear p8 p15 g7
       go_loopw [6] (fun i wr=>∃ k:Nat,k≤n7∧i=.int .i64 k∧Hid (∀ j,j<k→mapP (x.maps.getD j (0,0)))∧Below w100.heap.size w100 wr) (fun i _=>n7 - (intOf i).toNat)
       case atStart=>exact ⟨0,Nat.zero_le _,rfl,fun j hj=>absurd hj (Nat.not_lt_zero _),Below.refl _ _⟩
       case round =>
        obtain ⟨k,hk,rfl,HE,hbr⟩:=hrel
        have Br:Hid (Below w.heap.size w wr):=B100.out.trans (hbr.mono B100.out.size)
        have Yr:Hid (wr.heap[w.heap.size]? = some (.cells #[.int .i64 x.ser,.slice a1 n1 c1,.slice a2 n2 c2,.int .i64 x.frm,.int .i64 x.til,.int .i64 x.key.1,.int .u64 x.key.2.1,.int .i64 x.key.2.2,.bool x.ca,.int .i64 x.room,.int .i64 x.uses,.slice a3 n3 c3,.slice a4 n4 c4,.slice a5 n5 c5,.slice a6 n6 c6,.slice a7 n7 c7,.int .i64 x.need,.int .i64 x.nomap,.int .i64 x.noany,.slice a8 n8 c8,.slice a9 n9 c9] 46)):=(hbr.block _ (Array.getElem?_eq_some_iff.1 Y100.out).1).trans Y100.out
        by_cases hkn:k<n7
        ·obtain ⟨b,off,rfl,hlb,h0,h1⟩:=HK.out.r7.get k hkn
         obtain ⟨y,hy⟩:∃ y,y=x.maps.getD k (0,0):=⟨_,rfl⟩
         rw [← hy] at h0 h1
         have HY:Hid (y=x.maps.getD k (0,0)):=hy
         have d0:wr.cell? ⟨b,off+k * 2,none⟩=some (.int .i64 y.1):=(Br.out.cell (p:=⟨b,off+k * 2,none⟩) hlb).trans h0
         have d1:wr.cell? ⟨b,off+k * 2+1,none⟩=some (.int .i64 y.2):=(Br.out.cell (p:=⟨b,off+k * 2+1,none⟩) hlb).trans h1
         have p15:wr.cell? ⟨w.heap.size,15,none⟩=some (.slice (some ⟨b,off,none⟩) n7 c7):=qk Yr.out rfl
         have hkni:(k:Int)<(n7:Int):=by omega
         clear hy h0 h1
         go_wp2_with fail
         by_cases m1:1≤y.1∧y.1≤1000
         case neg =>
          refine (l1In_any y.1 1 1000 _).mono ?_
          rintro e w9_ ⟨rfl,hw9⟩
          subst hw9
          rw [decide_eq_false m1]
          have HN:Hid (¬ ceP x):=fun q=>m1 (by have:=(q.2.2.2.2.2.2.2.2.2.2 HCA.out).2.2.2.2.2.2.2 k (by rw [HL7.out]; exact hkn); rw [← HY.out] at this; exact this.1)
          clear m1
          go_wp2
          go_ret
          exact says_f HN.out Br.out
         refine (l1In_any y.1 1 1000 _).mono ?_
         rintro e w9_ ⟨rfl,hw9⟩
         subst hw9
         rw [decide_eq_true m1]
         have Hm1:Hid (1≤y.1∧y.1≤1000):=m1
         clear m1
         go_wp2_with fail
         by_cases m2:1≤y.2∧y.2≤1000
         case neg =>
          refine (l1In_any y.2 1 1000 _).mono ?_
          rintro e w9_ ⟨rfl,hw9⟩
          subst hw9
          rw [decide_eq_false m2]
          have HN:Hid (¬ ceP x):=fun q=>m2 (by have:=(q.2.2.2.2.2.2.2.2.2.2 HCA.out).2.2.2.2.2.2.2 k (by rw [HL7.out]; exact hkn); rw [← HY.out] at this; exact this.2)
          clear m2
          go_wp2
          go_ret
          exact says_f HN.out Br.out
         refine (l1In_any y.2 1 1000 _).mono ?_
         rintro e w9_ ⟨rfl,hw9⟩
         subst hw9
         rw [decide_eq_true m2]
         have HX:Hid (∀ j,j<k+1→mapP (x.maps.getD j (0,0))):=fun j hj=>by
          by_cases e:j=k
          ·subst e; rw [← HY.out]; exact ⟨Hm1.out,m2⟩
          ·exact HE.out j (by omega)
         clear m2
         go_wp2
         go_roundw
         case rel=>exact ⟨k+1,by omega,by go_num,HX,hbr⟩
         case measure=>simp [intOf]; omega
        ·have hkn':k=n7:=by omega
         subst hkn'
         have hki:¬ ((k:Int)<(k:Int)):=by omega
         have HMA:Hid (x.maps.length≤6∧mapsP x.maps):=⟨by rw [HL7.out]; exact hn7,fun j hj=>HE.out j (by rw [← HL7.out]; exact hj)⟩
         have p15:wr.cell? ⟨w.heap.size,15,none⟩=some (.slice a7 k c7):=qk Yr.out rfl
         obtain ⟨w101,hw101⟩:∃ w101,w101=wr:=⟨_,rfl⟩
         have B101:Hid (Below w.heap.size w w101):=by rw [hw101]; exact Br
         have Y101:Hid (w101.heap[w.heap.size]? = some (.cells #[.int .i64 x.ser,.slice a1 n1 c1,.slice a2 n2 c2,.int .i64 x.frm,.int .i64 x.til,.int .i64 x.key.1,.int .u64 x.key.2.1,.int .i64 x.key.2.2,.bool x.ca,.int .i64 x.room,.int .i64 x.uses,.slice a3 n3 c3,.slice a4 n4 c4,.slice a5 n5 c5,.slice a6 n6 c6,.slice a7 k c7,.int .i64 x.need,.int .i64 x.nomap,.int .i64 x.noany,.slice a8 n8 c8,.slice a9 n9 c9] 46)):=by rw [hw101]; exact Yr
         rw [← hw101] at p15 ⊢
         clear hw101
         have p9:w101.cell? ⟨w.heap.size,9,none⟩=some (.int .i64 x.room):=qk Y101.out rfl
         go_wp2_with fail
         by_cases u1 : -1≤x.room∧x.room≤10
         case neg =>
          refine (l1In_any x.room (-1) 10 _).mono ?_
          rintro e w9_ ⟨rfl,hw9⟩
          subst hw9
          rw [decide_eq_false u1]
          have HN:Hid (¬ ceP x):=fun q=>u1 (q.2.2.2.2.2.2.2.2.2.2 HCA.out).1
          clear u1
          go_wp2
          go_ret
          exact says_f HN.out B101.out
         refine (l1In_any x.room (-1) 10 _).mono ?_
         rintro e w9_ ⟨rfl,hw9⟩
         subst hw9
         rw [decide_eq_true u1]
         have Hu1:Hid (-1≤x.room∧x.room≤10):=u1
         clear u1
         have p12:w101.cell? ⟨w.heap.size,12,none⟩=some (.slice a4 n4 c4):=qk Y101.out rfl
         go_wp2_with fail
         refine (l9Bases_any a4 n4 c4 x.per _ (HKN.out _ B101.out).r4 HZ.out.2.2.2.1.2).mono ?_
         rintro e w102 ⟨v_,rfl,hv_,hb_⟩
         have B102:Hid (Below w.heap.size w w102):=B101.out.trans (hb_.mono B101.out.size)
         have Y102:Hid (w102.heap[w.heap.size]? = some (.cells #[.int .i64 x.ser,.slice a1 n1 c1,.slice a2 n2 c2,.int .i64 x.frm,.int .i64 x.til,.int .i64 x.key.1,.int .u64 x.key.2.1,.int .i64 x.key.2.2,.bool x.ca,.int .i64 x.room,.int .i64 x.uses,.slice a3 n3 c3,.slice a4 n4 c4,.slice a5 n5 c5,.slice a6 n6 c6,.slice a7 k c7,.int .i64 x.need,.int .i64 x.nomap,.int .i64 x.noany,.slice a8 n8 c8,.slice a9 n9 c9] 46)):=(hb_.block _ (Array.getElem?_eq_some_iff.1 Y101.out).1).trans Y101.out
         have HV:Hid _:=hv_
         clear hv_ hb_
         clear p15 p9 p12
         rcases v_ with _ | _
         ·have HN:Hid (¬ ceP x):=fun q=>by have:=HV.out.2 (by have h1:=(q.2.2.2.2.2.2.2.2.2.2 HCA.out).2.2.2.2.1; rw [HL4.out] at h1; exact h1); cases this
          go_wp2
          go_ret
          exact says_f HN.out B102.out
         have Hu2:Hid (basesP x.per n4):=HV.out.1 rfl
         clear HV
         have p13:w102.cell? ⟨w.heap.size,13,none⟩=some (.slice a5 n5 c5):=qk Y102.out rfl
         go_wp2_with fail
         refine (l9Bases_any a5 n5 c5 x.den _ (HKN.out _ B102.out).r5 HZ.out.2.2.2.2.1.2).mono ?_
         rintro e w103 ⟨v_,rfl,hv_,hb_⟩
         have B103:Hid (Below w.heap.size w w103):=B102.out.trans (hb_.mono B102.out.size)
         have Y103:Hid (w103.heap[w.heap.size]? = some (.cells #[.int .i64 x.ser,.slice a1 n1 c1,.slice a2 n2 c2,.int .i64 x.frm,.int .i64 x.til,.int .i64 x.key.1,.int .u64 x.key.2.1,.int .i64 x.key.2.2,.bool x.ca,.int .i64 x.room,.int .i64 x.uses,.slice a3 n3 c3,.slice a4 n4 c4,.slice a5 n5 c5,.slice a6 n6 c6,.slice a7 k c7,.int .i64 x.need,.int .i64 x.nomap,.int .i64 x.noany,.slice a8 n8 c8,.slice a9 n9 c9] 46)):=(hb_.block _ (Array.getElem?_eq_some_iff.1 Y102.out).1).trans Y102.out
         have HV:Hid _:=hv_
         clear hv_ hb_
         clear p13
         rcases v_ with _ | _
         ·have HN:Hid (¬ ceP x):=fun q=>by have:=HV.out.2 (by have h1:=(q.2.2.2.2.2.2.2.2.2.2 HCA.out).2.2.2.2.2.1; rw [HL5.out] at h1; exact h1); cases this
          go_wp2
          go_ret
          exact says_f HN.out B103.out
         have Hu3:Hid (basesP x.den n5):=HV.out.1 rfl
         clear HV
         have p16:w103.cell? ⟨w.heap.size,16,none⟩=some (.int .i64 x.need):=qk Y103.out rfl
         go_wp2_with fail
         by_cases u4 : -1≤x.need∧x.need≤10
         case neg =>
          refine (l1In_any x.need (-1) 10 _).mono ?_
          rintro e w9_ ⟨rfl,hw9⟩
          subst hw9
          rw [decide_eq_false u4]
          have HN:Hid (¬ ceP x):=fun q=>u4 (q.2.2.2.2.2.2.2.2.2.2 HCA.out).2.1
          clear u4
          go_wp2
          go_ret
          exact says_f HN.out B103.out
         refine (l1In_any x.need (-1) 10 _).mono ?_
         rintro e w9_ ⟨rfl,hw9⟩
         subst hw9
         rw [decide_eq_true u4]
         have Hu4:Hid (-1≤x.need∧x.need≤10):=u4
         clear u4
         have p17:w103.cell? ⟨w.heap.size,17,none⟩=some (.int .i64 x.nomap):=qk Y103.out rfl
         go_wp2_with fail
         by_cases u5 : -1≤x.nomap∧x.nomap≤10
         case neg =>
          refine (l1In_any x.nomap (-1) 10 _).mono ?_
          rintro e w9_ ⟨rfl,hw9⟩
          subst hw9
          rw [decide_eq_false u5]
          have HN:Hid (¬ ceP x):=fun q=>u5 (q.2.2.2.2.2.2.2.2.2.2 HCA.out).2.2.1
          clear u5
          go_wp2
          go_ret
          exact says_f HN.out B103.out
         refine (l1In_any x.nomap (-1) 10 _).mono ?_
         rintro e w9_ ⟨rfl,hw9⟩
         subst hw9
         rw [decide_eq_true u5]
         have Hu5:Hid (-1≤x.nomap∧x.nomap≤10):=u5
         clear u5
         have p18:w103.cell? ⟨w.heap.size,18,none⟩=some (.int .i64 x.noany):=qk Y103.out rfl
         go_wp2_with fail
         by_cases u6 : -1≤x.noany∧x.noany≤10
         case neg =>
          refine (l1In_any x.noany (-1) 10 _).mono ?_
          rintro e w9_ ⟨rfl,hw9⟩
          subst hw9
          rw [decide_eq_false u6]
          have HN:Hid (¬ ceP x):=fun q=>u6 (q.2.2.2.2.2.2.2.2.2.2 HCA.out).2.2.2.1
          clear u6
          go_wp2
          go_ret
          exact says_f HN.out B103.out
         refine (l1In_any x.noany (-1) 10 _).mono ?_
         rintro e w9_ ⟨rfl,hw9⟩
         subst hw9
         rw [decide_eq_true u6]
         have Hu6:Hid (-1≤x.noany∧x.noany≤10):=u6
         clear u6
         have HT:Hid (ceP x):=⟨Hq1.out,⟨Hq2.out,HNE.out⟩,⟨Hq3.out,HOR.out,by rw [HL3.out]; exact Hq8.out⟩,⟨Hq4.out,Hq5.out,HSP.out⟩,Hq6.out,Hq7.out,HPL.out,HEX.out,HSG.out,⟨fun e=>(by rw [HCA.out] at e; cases e),fun _=>⟨Hu1.out,Hu4.out,Hu5.out,Hu6.out,by rw [HL4.out]; exact Hu2.out,by rw [HL5.out]; exact Hu3.out,HMA.out⟩⟩⟩
         go_wp2
         go_ret
         exact says_t HT.out B103.out
     obtain ⟨b,off,⟨e1,m1,d1⟩,hae,hlb,hc,hp⟩:=HK.out.r8.get k hkn
     obtain ⟨y,hy⟩:∃ y,y=x.ext.getD k default:=⟨_,rfl⟩
     rw [← hy] at hc hp
     have HY:Hid (y=x.ext.getD k default):=hy
     have HYL:Hid (y.val.length=m1):=hp.r1.len
     have hm1:=hp.m1
     have HAE:Hid (a8=some ⟨b,off,none⟩):=hae
     replace hc:=hc.of (w':=wb) (fun i=>Br.out.cell (p:=⟨b,i,none⟩) hlb)
     have f0:wb.cell? ⟨b,off+k * 3,none⟩=some (.int .i64 y.id):=hc.c0
     have f1:wb.cell? ⟨b,off+k * 3+1,none⟩=some (.bool y.crit):=hc.c1
     have f2:wb.cell? ⟨b,off+k * 3+2,none⟩=some (.slice e1 m1 d1):=hc.c2
     have p19:wb.cell? ⟨w.heap.size,19,none⟩=some (.slice (some ⟨b,off,none⟩) n8 c8):=by rw [← hae]; exact (cell_of_row _ _ 19 _ 46 (0,0) Yr.out).trans rfl
     obtain ⟨W2,hW2⟩:∃ W2,W2=wb.alloc (.cells #[.int .i64 y.id,.bool y.crit,.slice e1 m1 d1] 113):=⟨_,rfl⟩
     have hb2:Below wb.heap.size wb W2:=by rw [hW2]; exact (Below.refl _ _).alloc (Nat.le_refl _) _
     have E2:Hid (W2.heap[wb.heap.size]? = some (.cells #[.int .i64 y.id,.bool y.crit,.slice e1 m1 d1] 113)):=by show _=_; rw [hW2]; exact heap_alloc_new wb _
     have B2:Hid (Below w.heap.size w W2):=Br.out.trans (hb2.mono Br.out.size)
     have BA2:Hid (Below wa.heap.size wa W2):=hbr.trans (hb2.mono hbr.size)
     have hkni:(k:Int)<(n8:Int):=by omega
     have HW2:Hid (_=_):=hW2
     clear hW2 hc hp hy hae
     go_upto_region 16 with fail
     rw [← HW2.out]
     clear HW2 f0 f1 f2 p19
     have g0:W2.cell? ⟨wb.heap.size,0,none⟩=some (.int .i64 y.id):=qk E2.out rfl
     have g2:W2.cell? ⟨wb.heap.size,2,none⟩=some (.slice e1 m1 d1):=qk E2.out rfl
     have p19:W2.cell? ⟨w.heap.size,19,none⟩=some (.slice (some ⟨b,off,none⟩) n8 c8):=by rw [← HAE.out]; exact (cell_of_row _ _ 19 _ 46 (0,0) ((hb2.block _ (Array.getElem?_eq_some_iff.1 Yr.out).1).trans Yr.out)).trans rfl
     clear hb2
     rcases k with _ | m
     ·by_cases r1:1≤y.id∧y.id≤1000
      case neg =>
       have HD1:Hid (decide (1≤y.id∧y.id≤1000)=false):=decide_eq_false r1
       have HR:Hid (¬ (1≤y.id∧y.id≤1000)):=r1
       clear r1
       have HN:Hid (¬ ceP x):=fun q=>HR.out (by have:=(q.2.2.2.2.2.2.2.1.2 0 (by rw [HL8.out]; exact hkn)).1; rw [← HY.out] at this; exact this)
       go_wp2_with fail
       go_quiet (first
        | (go_at_call 74; refine Calls.quiet_of_same (ceBool (l1In_any y.id 1 1000 _) HD1.out)))
       go_wp2
       go_ret
       exact says_f HN.out (ceDrew B2.out _)
      have HD1:Hid (decide (1≤y.id∧y.id≤1000)=true):=decide_eq_true r1
      have HR1:Hid (1≤y.id∧y.id≤1000):=r1
      clear r1
      by_cases r3:(30:Int)<(m1:Int)
      case pos =>
       have HN:Hid (¬ ceP x):=fun q=>by have:=(q.2.2.2.2.2.2.2.1.2 0 (by rw [HL8.out]; exact hkn)).2.2; rw [← HY.out,HYL.out] at this; omega
       go_wp2_with fail
       go_quiet (first
        | (go_at_call 74; refine Calls.quiet_of_same (ceBool (l1In_any y.id 1 1000 _) HD1.out)))
       go_wp2
       go_ret
       exact says_f HN.out (ceDrew B2.out _)
      have HX:Hid (∀ j,j<0+1→extAt x.ext j):=fun j hj=>by
       by_cases e:j=0
       ·subst e
        exact ⟨by rw [← HY.out]; exact HR1.out,fun h=>absurd h (by decide),by rw [← HY.out,HYL.out]; omega⟩
       ·exact HE.out j (by omega)
      go_wp2_with fail
      go_quiet (first
       | (go_at_call 74; refine Calls.quiet_of_same (ceBool (l1In_any y.id 1 1000 _) HD1.out)))
      go_wp2
      go_roundw
      case rel=>exact ⟨0+1,by omega,by go_num,HX,ceDrew BA2.out _⟩
      case measure=>simp [intOf]; omega
     ·obtain ⟨b9,off9,⟨e9,m9,d9⟩,hae9,hlb9,hc9,hp9⟩:=HK.out.r8.get m (show m<n8 by omega)
      rw [HAE.out] at hae9
      obtain ⟨rfl,rfl⟩:b=b9∧off=off9:=by simpa using hae9
      obtain ⟨z,hz8⟩:∃ z,z=x.ext.getD m default:=⟨_,rfl⟩
      rw [← hz8] at hc9
      have HZ8:Hid (z=x.ext.getD m default):=hz8
      have f0:W2.cell? ⟨b,off+m * 3,none⟩=some (.int .i64 z.id):=(hc9.of (w':=W2) (fun i=>B2.out.cell (p:=⟨b,i,none⟩) hlb9)).c0
      have hmn:(m:Int)<(n8:Int):=by omega
      have hwm:IntKind.i64.wrap (m:Int)=(m:Int):=wrapC _ (by omega) (by omega)
      clear hc9 hp9 hae9 hz8
      by_cases r1:1≤y.id∧y.id≤1000
      case neg =>
       have HD1:Hid (decide (1≤y.id∧y.id≤1000)=false):=decide_eq_false r1
       have HR:Hid (¬ (1≤y.id∧y.id≤1000)):=r1
       clear r1
       have HN:Hid (¬ ceP x):=fun q=>HR.out (by have:=(q.2.2.2.2.2.2.2.1.2 (m+1) (by rw [HL8.out]; exact hkn)).1; rw [← HY.out] at this; exact this)
       go_wp2_with fail
       go_quiet (first
        | (go_at_call 74; refine Calls.quiet_of_same (ceBool (l1In_any y.id 1 1000 _) HD1.out)))
       go_wp2
       go_ret
       exact says_f HN.out (ceDrew B2.out _)
      have HD1:Hid (decide (1≤y.id∧y.id≤1000)=true):=decide_eq_true r1
      have HR1:Hid (1≤y.id∧y.id≤1000):=r1
      clear r1
      by_cases r2:y.id≤z.id
      case pos =>
       have HN:Hid (¬ ceP x):=fun q=>by have:=(q.2.2.2.2.2.2.2.1.2 (m+1) (by rw [HL8.out]; exact hkn)).2.1 (by omega); rw [← HY.out,Nat.add_sub_cancel,← HZ8.out] at this; omega
       go_wp2_with fail
       go_quiet (first
        | (go_at_call 74; refine Calls.quiet_of_same (ceBool (l1In_any y.id 1 1000 _) HD1.out)))
       go_wp2
       go_ret
       exact says_f HN.out (ceDrew B2.out _)
      have HR2:Hid (z.id<y.id):=by show z.id<y.id; omega
      by_cases r3:(30:Int)<(m1:Int)
      case pos =>
       have HN:Hid (¬ ceP x):=fun q=>by have:=(q.2.2.2.2.2.2.2.1.2 (m+1) (by rw [HL8.out]; exact hkn)).2.2; rw [← HY.out,HYL.out] at this; omega
       go_wp2_with fail
       go_quiet (first
        | (go_at_call 74; refine Calls.quiet_of_same (ceBool (l1In_any y.id 1 1000 _) HD1.out)))
       go_wp2
       go_ret
       exact says_f HN.out (ceDrew B2.out _)
      have HX:Hid (∀ j,j<(m+1)+1→extAt x.ext j):=fun j hj=>by
       by_cases e:j=(m+1)
       ·subst e
        exact ⟨by rw [← HY.out]; exact HR1.out,fun _=>by rw [← HY.out,Nat.add_sub_cancel,← HZ8.out]; exact HR2.out,by rw [← HY.out,HYL.out]; omega⟩
       ·exact HE.out j (by omega)
      go_wp2_with fail
      go_quiet (first
       | (go_at_call 74; refine Calls.quiet_of_same (ceBool (l1In_any y.id 1 1000 _) HD1.out)))
      go_wp2
      go_roundw
      case rel=>exact ⟨(m+1)+1,by omega,by go_num,HX,ceDrew BA2.out _⟩
      case measure=>simp [intOf]; omega
   obtain ⟨b,off,hae,hb,hcell0⟩:=HK.out.r6.get k hlt
   obtain ⟨z,hz⟩:∃ z,z=x.pol.getD k 0:=⟨_,rfl⟩
   rw [← hz] at hcell0
   have hcell:wa.cell? ⟨b,off+k,none⟩=some (.int .i64 z):=(Ba.out.cell (p:=⟨b,off+k,none⟩) hb).trans hcell0
   have HR:Hid (Row64 wa (some ⟨b,off,none⟩) k (x.pol.take k)):=by rw [← hae]; exact ((HKN.out _ Ba.out).r6).take k (by show k≤n6; omega)
   have HZ6:Hid (z=x.pol.getD k 0):=hz
   have p14:wa.cell? ⟨w.heap.size,14,none⟩=some (.slice (some ⟨b,off,none⟩) n6 c6):=by rw [← hae]; exact (cell_of_row _ _ 14 _ 46 (0,0) Ya.out).trans rfl
   have hlti:(k:Int)<(n6:Int):=by omega
   have hkc:k≤c6:=by have:=HC6.out; omega
   clear hz hcell0 hae
   by_cases hs:0≤z∧z≤1000
   ·have HD1:Hid (decide (0≤z∧z≤1000)=true):=decide_eq_true hs
    by_cases hin:z∈x.pol.take k
    ·have HN:Hid (¬ ceP x):=fun q=>q.2.2.2.2.2.2.1.2.2 k (by rw [HL6.out]; exact hlt) (by rw [← HZ6.out]; exact hin)
     have HD2:Hid (decide (z∈x.pol.take k)=true):=decide_eq_true hin
     clear hs hin HA
     go_wp2_with fail
     go_quiet (first
      | (go_at_call 74; refine Calls.quiet_of_same (ceBool (l1In_any z 0 1000 _) HD1.out))
      | (go_at_call 77; refine Calls.quiet_of_same (calls_boolC (l1HasNum_any _ k c6 (x.pol.take k) z _ (HR.out.kept (ceDrew (Below.refl _ _) _)) (by omega)) HD2.out)))
     go_wp2
     go_ret
     exact says_f HN.out (ceDrew Ba.out _)
    ·have HX:Hid (PolN x.pol (k+1)):=fun j hj=>by
      by_cases e:j=k
      ·rw [e,← HZ6.out]; exact ⟨hs,hin⟩
      ·exact HA.out j (by omega)
     have HD2:Hid (decide (z∈x.pol.take k)=false):=decide_eq_false hin
     clear hs hin HA
     go_wp2_with fail
     go_quiet (first
      | (go_at_call 74; refine Calls.quiet_of_same (ceBool (l1In_any z 0 1000 _) HD1.out))
      | (go_at_call 77; refine Calls.quiet_of_same (calls_boolC (l1HasNum_any _ k c6 (x.pol.take k) z _ (HR.out.kept (ceDrew (Below.refl _ _) _)) (by omega)) HD2.out)))
     go_wp2
     go_roundw
     case rel=>exact ⟨k+1,by omega,by go_num,HX,ceDrew hbr _⟩
     case measure=>simp [intOf]; omega
   ·have HN:Hid (¬ ceP x):=fun q=>hs (by have:=q.2.2.2.2.2.2.1.2.1 k (by rw [HL6.out]; exact hlt); rw [← HZ6.out] at this; exact this)
    have HD1:Hid (decide (0≤z∧z≤1000)=false):=decide_eq_false hs
    clear hs HA
    go_wp2_with fail
    go_quiet (first
     | (go_at_call 74; refine Calls.quiet_of_same (ceBool (l1In_any z 0 1000 _) HD1.out)))
    go_wp2
    go_ret
    exact says_f HN.out (ceDrew Ba.out _)
 ·have he2:((n2:Int) == 0)=false:=by simp [e2]
  have HOR:Hid (x.sub≠[]∨x.nms≠[]):=.inl (fun q=>e2 (by rw [← HL2.out,q]; rfl))
  clear e2
  go_upto_region 3 with fail
  clear p2 p11
  have p3:w2.cell? ⟨w.heap.size,3,none⟩=some (.int .i64 x.frm):=qk Y2.out rfl
  go_wp2_with fail
  by_cases q4:0≤x.frm∧x.frm≤253402300799
  case neg =>
   refine (l1In_any x.frm 0 253402300799 _).mono ?_
   rintro e w9_ ⟨rfl,hw9⟩
   subst hw9
   rw [decide_eq_false q4]
   have HN:Hid (¬ ceP x):=fun q=>q4 q.2.2.2.1.1
   clear q4
   go_wp2
   go_ret
   exact says_f HN.out B2.out
  refine (l1In_any x.frm 0 253402300799 _).mono ?_
  rintro e w9_ ⟨rfl,hw9⟩
  subst hw9
  rw [decide_eq_true q4]
  have Hq4:Hid (0≤x.frm∧x.frm≤253402300799):=q4
  clear q4
  have p4:w2.cell? ⟨w.heap.size,4,none⟩=some (.int .i64 x.til):=qk Y2.out rfl
  go_wp2_with fail
  by_cases q5:0≤x.til∧x.til≤253402300799
  case neg =>
   refine (l1In_any x.til 0 253402300799 _).mono ?_
   rintro e w9_ ⟨rfl,hw9⟩
   subst hw9
   rw [decide_eq_false q5]
   have HN:Hid (¬ ceP x):=fun q=>q5 q.2.2.2.1.2.1
   clear q5
   go_wp2
   go_ret
   exact says_f HN.out B2.out
  refine (l1In_any x.til 0 253402300799 _).mono ?_
  rintro e w9_ ⟨rfl,hw9⟩
  subst hw9
  rw [decide_eq_true q5]
  have Hq5:Hid (0≤x.til∧x.til≤253402300799):=q5
  clear q5
  by_cases cft:x.til<x.frm
  case pos =>
   have HN:Hid (¬ ceP x):=fun q=>by have:=q.2.2.2.1.2.2; omega
   go_wp2
   go_ret
   exact says_f HN.out B2.out
  have HSP:Hid (x.frm≤x.til):=by show x.frm≤x.til; omega
  have p5:w2.cell? ⟨w.heap.size,5,none⟩=some (.int .i64 x.key.1):=qk Y2.out rfl
  have p6:w2.cell? ⟨w.heap.size,6,none⟩=some (.int .u64 x.key.2.1):=qk Y2.out rfl
  have p7:w2.cell? ⟨w.heap.size,7,none⟩=some (.int .i64 x.key.2.2):=qk Y2.out rfl
  go_wp2_with fail
  refine (l8PubOk_any x.key.1 x.key.2.1 x.key.2.2 _ hu).mono ?_
  rintro e w3 ⟨rfl,hb_⟩
  have B3:Hid (Below w.heap.size w w3):=B2.out.trans (hb_.mono B2.out.size)
  have Y3:Hid (w3.heap[w.heap.size]? = some (.cells #[.int .i64 x.ser,.slice a1 n1 c1,.slice a2 n2 c2,.int .i64 x.frm,.int .i64 x.til,.int .i64 x.key.1,.int .u64 x.key.2.1,.int .i64 x.key.2.2,.bool x.ca,.int .i64 x.room,.int .i64 x.uses,.slice a3 n3 c3,.slice a4 n4 c4,.slice a5 n5 c5,.slice a6 n6 c6,.slice a7 n7 c7,.int .i64 x.need,.int .i64 x.nomap,.int .i64 x.noany,.slice a8 n8 c8,.slice a9 n9 c9] 46)):=(hb_.block _ (Array.getElem?_eq_some_iff.1 Y2.out).1).trans Y2.out
  clear hb_
  clear p3 p4 p5 p6 p7
  by_cases q6:pubP x.key.1 x.key.2.1 x.key.2.2
  case neg =>
   rw [decide_eq_false q6]
   have HN:Hid (¬ ceP x):=fun q=>q6 (q.2.2.2.2.1)
   clear q6
   go_wp2
   go_ret
   exact says_f HN.out B3.out
  rw [decide_eq_true q6]
  have Hq6:Hid (pubP x.key.1 x.key.2.1 x.key.2.2):=q6
  clear q6
  have p10:w3.cell? ⟨w.heap.size,10,none⟩=some (.int .i64 x.uses):=qk Y3.out rfl
  go_wp2_with fail
  by_cases q7:0≤x.uses∧x.uses≤255
  case neg =>
   refine (l1In_any x.uses 0 255 _).mono ?_
   rintro e w9_ ⟨rfl,hw9⟩
   subst hw9
   rw [decide_eq_false q7]
   have HN:Hid (¬ ceP x):=fun q=>q7 q.2.2.2.2.2.1
   clear q7
   go_wp2
   go_ret
   exact says_f HN.out B3.out
  refine (l1In_any x.uses 0 255 _).mono ?_
  rintro e w9_ ⟨rfl,hw9⟩
  subst hw9
  rw [decide_eq_true q7]
  have Hq7:Hid (0≤x.uses∧x.uses≤255):=q7
  clear q7
  have p11:w3.cell? ⟨w.heap.size,11,none⟩=some (.slice a3 n3 c3):=qk Y3.out rfl
  go_wp2_with fail
  refine (l9Gens_any a3 n3 c3 x.nms _ ((HKN.out _ B3.out).r3) HZ.out.2.2.1.2).mono ?_
  rintro e w4 ⟨v_,rfl,hv_,hb_⟩
  have B4:Hid (Below w.heap.size w w4):=B3.out.trans (hb_.mono B3.out.size)
  have Y4:Hid (w4.heap[w.heap.size]? = some (.cells #[.int .i64 x.ser,.slice a1 n1 c1,.slice a2 n2 c2,.int .i64 x.frm,.int .i64 x.til,.int .i64 x.key.1,.int .u64 x.key.2.1,.int .i64 x.key.2.2,.bool x.ca,.int .i64 x.room,.int .i64 x.uses,.slice a3 n3 c3,.slice a4 n4 c4,.slice a5 n5 c5,.slice a6 n6 c6,.slice a7 n7 c7,.int .i64 x.need,.int .i64 x.nomap,.int .i64 x.noany,.slice a8 n8 c8,.slice a9 n9 c9] 46)):=(hb_.block _ (Array.getElem?_eq_some_iff.1 Y3.out).1).trans Y3.out
  have HV:Hid _:=hv_
  clear hv_ hb_
  clear p10 p11
  rcases v_ with _ | _
  ·have HN:Hid (¬ ceP x):=fun q=>by have:=HV.out.2 (by have h1:=q.2.2.1.2.2; rw [HL3.out] at h1; exact h1); cases this
   go_wp2
   go_ret
   exact says_f HN.out B4.out
  have Hq8:Hid (gensP x.nms n3):=HV.out.1 rfl
  clear HV
  have p14:w4.cell? ⟨w.heap.size,14,none⟩=some (.slice a6 n6 c6):=qk Y4.out rfl
  have p19:w4.cell? ⟨w.heap.size,19,none⟩=some (.slice a8 n8 c8):=qk Y4.out rfl
  have p20:w4.cell? ⟨w.heap.size,20,none⟩=some (.slice a9 n9 c9):=qk Y4.out rfl
  clear cft
  have hx6:=HX6.out
  have hx8:=HK.out.r8.max
  have hx9:=HX9.out
  by_cases g6:(6:Int)<(n6:Int)
  case pos =>
   have HN:Hid (¬ ceP x):=fun q=>by have:=q.2.2.2.2.2.2.1.1; rw [HL6.out] at this; omega
   go_wp2
   go_ret
   exact says_f HN.out B4.out
  by_cases g8:(4:Int)<(n8:Int)
  case pos =>
   have HN:Hid (¬ ceP x):=fun q=>by have:=q.2.2.2.2.2.2.2.1.1; rw [HL8.out] at this; omega
   go_wp2
   go_ret
   exact says_f HN.out B4.out
  by_cases g9:(500:Int)<(n9:Int)
  case pos =>
   have HN:Hid (¬ ceP x):=fun q=>by have:=q.2.2.2.2.2.2.2.2.1; rw [HL9.out] at this; omega
   go_wp2
   go_ret
   exact says_f HN.out B4.out
  have hn6:n6≤6:=by omega
  have hn8:n8≤4:=by omega
  have HSG:Hid (x.sig.length≤500):=by show x.sig.length≤500; rw [HL9.out]; omega
  go_wp2
  clear p14 p19 p20 g6 g8 g9
  go_loopw [3] (fun i wr=>∃ k:Nat,k≤n6∧i=.int .i64 k∧Hid (PolN x.pol k)∧Below w4.heap.size w4 wr) (fun i _=>n6 - (intOf i).toNat)
  case atStart=>exact ⟨0,Nat.zero_le _,rfl,fun j hj=>absurd hj (Nat.not_lt_zero _),Below.refl _ _⟩
  case round =>
   obtain ⟨wa,hwa⟩:∃ wa,wa=wr:=⟨_,rfl⟩
   subst hwa
   obtain ⟨k,hk,rfl,HA,hbr⟩:=hrel
   have Ba:Hid (Below w.heap.size w wa):=B4.out.trans (hbr.mono B4.out.size)
   have Ya:Hid (wa.heap[w.heap.size]? = some (.cells #[.int .i64 x.ser,.slice a1 n1 c1,.slice a2 n2 c2,.int .i64 x.frm,.int .i64 x.til,.int .i64 x.key.1,.int .u64 x.key.2.1,.int .i64 x.key.2.2,.bool x.ca,.int .i64 x.room,.int .i64 x.uses,.slice a3 n3 c3,.slice a4 n4 c4,.slice a5 n5 c5,.slice a6 n6 c6,.slice a7 n7 c7,.int .i64 x.need,.int .i64 x.nomap,.int .i64 x.noany,.slice a8 n8 c8,.slice a9 n9 c9] 46)):=(hbr.block _ (Array.getElem?_eq_some_iff.1 Y4.out).1).trans Y4.out
   by_cases hlt:k<n6
   case neg =>
    have hkn':k=n6:=by omega
    have hki:¬ ((k:Int)<(n6:Int)):=by omega
    have HPL:Hid (polsP x.pol):=⟨by rw [HL6.out]; exact hn6,fun j hj=>(HA.out j (by rw [hkn',← HL6.out]; exact hj)).1,fun j hj=>(HA.out j (by rw [hkn',← HL6.out]; exact hj)).2⟩
    have p14:wa.cell? ⟨w.heap.size,14,none⟩=some (.slice a6 n6 c6):=qk Ya.out rfl
    clear HA hkn'
    go_wp2
    clear p14
    go_loopw [4] (fun i wr=>∃ k:Nat,k≤n8∧i=.int .i64 k∧Hid (∀ j,j<k→extAt x.ext j)∧Below wa.heap.size wa wr) (fun i _=>n8 - (intOf i).toNat)
    case atStart=>exact ⟨0,Nat.zero_le _,rfl,fun j hj=>absurd hj (Nat.not_lt_zero _),Below.refl _ _⟩
    case round =>
     obtain ⟨wb,hwb⟩:∃ wb,wb=wr:=⟨_,rfl⟩
     subst hwb
     obtain ⟨k,hk,rfl,HE,hbr⟩:=hrel
     have Br:Hid (Below w.heap.size w wb):=Ba.out.trans (hbr.mono Ba.out.size)
     have Yr:Hid (wb.heap[w.heap.size]? = some (.cells #[.int .i64 x.ser,.slice a1 n1 c1,.slice a2 n2 c2,.int .i64 x.frm,.int .i64 x.til,.int .i64 x.key.1,.int .u64 x.key.2.1,.int .i64 x.key.2.2,.bool x.ca,.int .i64 x.room,.int .i64 x.uses,.slice a3 n3 c3,.slice a4 n4 c4,.slice a5 n5 c5,.slice a6 n6 c6,.slice a7 n7 c7,.int .i64 x.need,.int .i64 x.nomap,.int .i64 x.noany,.slice a8 n8 c8,.slice a9 n9 c9] 46)):=(hbr.block _ (Array.getElem?_eq_some_iff.1 Ya.out).1).trans Ya.out
     by_cases hkn:k<n8
     case neg =>
      have hkn':k=n8:=by omega
      have hki:¬ ((k:Int)<(n8:Int)):=by omega
      have HEX:Hid (extsP x.ext):=⟨by rw [HL8.out]; exact hn8,fun j hj=>HE.out j (by rw [hkn',← HL8.out]; exact hj)⟩
      have p19:wb.cell? ⟨w.heap.size,19,none⟩=some (.slice a8 n8 c8):=qk Yr.out rfl
      clear HE hkn'
      go_upto_region 18 with fail
      clear p19
      have B100:Hid (Below w.heap.size w wb):=Br
      have Y100:Hid (wb.heap[w.heap.size]? = some (.cells #[.int .i64 x.ser,.slice a1 n1 c1,.slice a2 n2 c2,.int .i64 x.frm,.int .i64 x.til,.int .i64 x.key.1,.int .u64 x.key.2.1,.int .i64 x.key.2.2,.bool x.ca,.int .i64 x.room,.int .i64 x.uses,.slice a3 n3 c3,.slice a4 n4 c4,.slice a5 n5 c5,.slice a6 n6 c6,.slice a7 n7 c7,.int .i64 x.need,.int .i64 x.nomap,.int .i64 x.noany,.slice a8 n8 c8,.slice a9 n9 c9] 46)):=Yr.out
      obtain ⟨w100,hw100⟩:∃ w100,w100=wb:=⟨_,rfl⟩
      rw [← hw100] at B100 Y100 ⊢
      clear hw100
      rcases hca:x.ca with _ | _
      ·have HCA:Hid (x.ca=false):=hca
       have p8:w100.cell? ⟨w.heap.size,8,none⟩=some (.bool false):=by rw [← hca]; exact (cell_of_row _ _ 8 _ 46 (0,0) Y100.out).trans rfl
       clear hca
       have p9:w100.cell? ⟨w.heap.size,9,none⟩=some (.int .i64 x.room):=qk Y100.out rfl
       have p16:w100.cell? ⟨w.heap.size,16,none⟩=some (.int .i64 x.need):=qk Y100.out rfl
       have p17:w100.cell? ⟨w.heap.size,17,none⟩=some (.int .i64 x.nomap):=qk Y100.out rfl
       have p18:w100.cell? ⟨w.heap.size,18,none⟩=some (.int .i64 x.noany):=qk Y100.out rfl
       have p12:w100.cell? ⟨w.heap.size,12,none⟩=some (.slice a4 n4 c4):=qk Y100.out rfl
       have p13:w100.cell? ⟨w.heap.size,13,none⟩=some (.slice a5 n5 c5):=qk Y100.out rfl
       have p15:w100.cell? ⟨w.heap.size,15,none⟩=some (.slice a7 n7 c7):=qk Y100.out rfl
       by_cases e_room:x.room = -1
       case neg =>
        have hne:(x.room == -1)=false:=by simp [e_room]
        have HN:Hid (¬ ceP x):=fun q=>e_room (q.2.2.2.2.2.2.2.2.2.1 HCA.out).1
        go_wp2
        go_ret
        exact says_f HN.out B100.out
       have h_room:(x.room == -1)=true:=by simp [e_room]
       have H_room:Hid (x.room = -1):=e_room
       clear e_room
       by_cases e_need:x.need = -1
       case neg =>
        have hne:(x.need == -1)=false:=by simp [e_need]
        have HN:Hid (¬ ceP x):=fun q=>e_need (q.2.2.2.2.2.2.2.2.2.1 HCA.out).2.1
        go_wp2
        go_ret
        exact says_f HN.out B100.out
       have h_need:(x.need == -1)=true:=by simp [e_need]
       have H_need:Hid (x.need = -1):=e_need
       clear e_need
       by_cases e_nomap:x.nomap = -1
       case neg =>
        have hne:(x.nomap == -1)=false:=by simp [e_nomap]
        have HN:Hid (¬ ceP x):=fun q=>e_nomap (q.2.2.2.2.2.2.2.2.2.1 HCA.out).2.2.1
        go_wp2
        go_ret
        exact says_f HN.out B100.out
       have h_nomap:(x.nomap == -1)=true:=by simp [e_nomap]
       have H_nomap:Hid (x.nomap = -1):=e_nomap
       clear e_nomap
       by_cases e_noany:x.noany = -1
       case neg =>
        have hne:(x.noany == -1)=false:=by simp [e_noany]
        have HN:Hid (¬ ceP x):=fun q=>e_noany (q.2.2.2.2.2.2.2.2.2.1 HCA.out).2.2.2.1
        go_wp2
        go_ret
        exact says_f HN.out B100.out
       have h_noany:(x.noany == -1)=true:=by simp [e_noany]
       have H_noany:Hid (x.noany = -1):=e_noany
       clear e_noany
       by_cases e4_:n4=0
       case neg =>
        have hne:((n4:Int) == 0)=false:=by simp [e4_]
        have HN:Hid (¬ ceP x):=fun q=>e4_ (by rw [← HL4.out]; exact (q.2.2.2.2.2.2.2.2.2.1 HCA.out).2.2.2.2.1)
        go_wp2
        go_ret
        exact says_f HN.out B100.out
       have h4_:((n4:Int) == 0)=true:=by simp [e4_]
       have H4_:Hid (n4=0):=e4_
       clear e4_
       by_cases e5_:n5=0
       case neg =>
        have hne:((n5:Int) == 0)=false:=by simp [e5_]
        have HN:Hid (¬ ceP x):=fun q=>e5_ (by rw [← HL5.out]; exact (q.2.2.2.2.2.2.2.2.2.1 HCA.out).2.2.2.2.2.1)
        go_wp2
        go_ret
        exact says_f HN.out B100.out
       have h5_:((n5:Int) == 0)=true:=by simp [e5_]
       have H5_:Hid (n5=0):=e5_
       clear e5_
       by_cases e7_:n7=0
       case neg =>
        have hne:((n7:Int) == 0)=false:=by simp [e7_]
        have HN:Hid (¬ ceP x):=fun q=>e7_ (by rw [← HL7.out]; exact (q.2.2.2.2.2.2.2.2.2.1 HCA.out).2.2.2.2.2.2)
        go_wp2
        go_ret
        exact says_f HN.out B100.out
       have h7_:((n7:Int) == 0)=true:=by simp [e7_]
       have H7_:Hid (n7=0):=e7_
       clear e7_
       have HT:Hid (ceP x):=⟨Hq1.out,⟨Hq2.out,HNE.out⟩,⟨Hq3.out,HOR.out,by rw [HL3.out]; exact Hq8.out⟩,⟨Hq4.out,Hq5.out,HSP.out⟩,Hq6.out,Hq7.out,HPL.out,HEX.out,HSG.out,⟨fun _=>⟨H_room.out,H_need.out,H_nomap.out,H_noany.out,by rw [HL4.out]; exact H4_.out,by rw [HL5.out]; exact H5_.out,by rw [HL7.out]; exact H7_.out⟩,fun e=>by rw [HCA.out] at e; cases e⟩⟩
       go_wp2
       go_ret
       exact says_t HT.out B100.out
      ·have HCA:Hid (x.ca=true):=hca
       have p8:w100.cell? ⟨w.heap.size,8,none⟩=some (.bool true):=by rw [← hca]; exact (cell_of_row _ _ 8 _ 46 (0,0) Y100.out).trans rfl
       clear hca
       have p15:w100.cell? ⟨w.heap.size,15,none⟩=some (.slice a7 n7 c7):=qk Y100.out rfl
       by_cases g7:(6:Int)<(n7:Int)
       case pos =>
        have HN:Hid (¬ ceP x):=fun q=>by have:=(q.2.2.2.2.2.2.2.2.2.2 HCA.out).2.2.2.2.2.2.1; rw [HL7.out] at this; omega
        go_wp2
        go_ret
        exact says_f HN.out B100.out
       have hn7:n7≤6:=by omega
       go_wp2
       clear p8 p15 g7
       go_loopw [6] (fun i wr=>∃ k:Nat,k≤n7∧i=.int .i64 k∧Hid (∀ j,j<k→mapP (x.maps.getD j (0,0)))∧Below w100.heap.size w100 wr) (fun i _=>n7 - (intOf i).toNat)
       case atStart=>exact ⟨0,Nat.zero_le _,rfl,fun j hj=>absurd hj (Nat.not_lt_zero _),Below.refl _ _⟩
       case round =>
        obtain ⟨k,hk,rfl,HE,hbr⟩:=hrel
        have Br:Hid (Below w.heap.size w wr):=B100.out.trans (hbr.mono B100.out.size)
        have Yr:Hid (wr.heap[w.heap.size]? = some (.cells #[.int .i64 x.ser,.slice a1 n1 c1,.slice a2 n2 c2,.int .i64 x.frm,.int .i64 x.til,.int .i64 x.key.1,.int .u64 x.key.2.1,.int .i64 x.key.2.2,.bool x.ca,.int .i64 x.room,.int .i64 x.uses,.slice a3 n3 c3,.slice a4 n4 c4,.slice a5 n5 c5,.slice a6 n6 c6,.slice a7 n7 c7,.int .i64 x.need,.int .i64 x.nomap,.int .i64 x.noany,.slice a8 n8 c8,.slice a9 n9 c9] 46)):=(hbr.block _ (Array.getElem?_eq_some_iff.1 Y100.out).1).trans Y100.out
        by_cases hkn:k<n7
        ·obtain ⟨b,off,rfl,hlb,h0,h1⟩:=HK.out.r7.get k hkn
         obtain ⟨y,hy⟩:∃ y,y=x.maps.getD k (0,0):=⟨_,rfl⟩
         rw [← hy] at h0 h1
         have HY:Hid (y=x.maps.getD k (0,0)):=hy
         have d0:wr.cell? ⟨b,off+k * 2,none⟩=some (.int .i64 y.1):=(Br.out.cell (p:=⟨b,off+k * 2,none⟩) hlb).trans h0
         have d1:wr.cell? ⟨b,off+k * 2+1,none⟩=some (.int .i64 y.2):=(Br.out.cell (p:=⟨b,off+k * 2+1,none⟩) hlb).trans h1
         have p15:wr.cell? ⟨w.heap.size,15,none⟩=some (.slice (some ⟨b,off,none⟩) n7 c7):=qk Yr.out rfl
         have hkni:(k:Int)<(n7:Int):=by omega
         clear hy h0 h1
         go_wp2_with fail
         by_cases m1:1≤y.1∧y.1≤1000
         case neg =>
          refine (l1In_any y.1 1 1000 _).mono ?_
          rintro e w9_ ⟨rfl,hw9⟩
          subst hw9
          rw [decide_eq_false m1]
          have HN:Hid (¬ ceP x):=fun q=>m1 (by have:=(q.2.2.2.2.2.2.2.2.2.2 HCA.out).2.2.2.2.2.2.2 k (by rw [HL7.out]; exact hkn); rw [← HY.out] at this; exact this.1)
          clear m1
          go_wp2
          go_ret
          exact says_f HN.out Br.out
         refine (l1In_any y.1 1 1000 _).mono ?_
         rintro e w9_ ⟨rfl,hw9⟩
         subst hw9
         rw [decide_eq_true m1]
         have Hm1:Hid (1≤y.1∧y.1≤1000):=m1
         clear m1
         go_wp2_with fail
         by_cases m2:1≤y.2∧y.2≤1000
         case neg =>
          refine (l1In_any y.2 1 1000 _).mono ?_
          rintro e w9_ ⟨rfl,hw9⟩
          subst hw9
          rw [decide_eq_false m2]
          have HN:Hid (¬ ceP x):=fun q=>m2 (by have:=(q.2.2.2.2.2.2.2.2.2.2 HCA.out).2.2.2.2.2.2.2 k (by rw [HL7.out]; exact hkn); rw [← HY.out] at this; exact this.2)
          clear m2
          go_wp2
          go_ret
          exact says_f HN.out Br.out
         refine (l1In_any y.2 1 1000 _).mono ?_
         rintro e w9_ ⟨rfl,hw9⟩
         subst hw9
         rw [decide_eq_true m2]
         have HX:Hid (∀ j,j<k+1→mapP (x.maps.getD j (0,0))):=fun j hj=>by
          by_cases e:j=k
          ·subst e; rw [← HY.out]; exact ⟨Hm1.out,m2⟩
          ·exact HE.out j (by omega)
         clear m2
         go_wp2
         go_roundw
         case rel=>exact ⟨k+1,by omega,by go_num,HX,hbr⟩
         case measure=>simp [intOf]; omega
        ·have hkn':k=n7:=by omega
         subst hkn'
         have hki:¬ ((k:Int)<(k:Int)):=by omega
         have HMA:Hid (x.maps.length≤6∧mapsP x.maps):=⟨by rw [HL7.out]; exact hn7,fun j hj=>HE.out j (by rw [← HL7.out]; exact hj)⟩
         have p15:wr.cell? ⟨w.heap.size,15,none⟩=some (.slice a7 k c7):=qk Yr.out rfl
         obtain ⟨w101,hw101⟩:∃ w101,w101=wr:=⟨_,rfl⟩
         have B101:Hid (Below w.heap.size w w101):=by rw [hw101]; exact Br
         have Y101:Hid (w101.heap[w.heap.size]? = some (.cells #[.int .i64 x.ser,.slice a1 n1 c1,.slice a2 n2 c2,.int .i64 x.frm,.int .i64 x.til,.int .i64 x.key.1,.int .u64 x.key.2.1,.int .i64 x.key.2.2,.bool x.ca,.int .i64 x.room,.int .i64 x.uses,.slice a3 n3 c3,.slice a4 n4 c4,.slice a5 n5 c5,.slice a6 n6 c6,.slice a7 k c7,.int .i64 x.need,.int .i64 x.nomap,.int .i64 x.noany,.slice a8 n8 c8,.slice a9 n9 c9] 46)):=by rw [hw101]; exact Yr
         rw [← hw101] at p15 ⊢
         clear hw101
         have p9:w101.cell? ⟨w.heap.size,9,none⟩=some (.int .i64 x.room):=qk Y101.out rfl
         go_wp2_with fail
         by_cases u1 : -1≤x.room∧x.room≤10
         case neg =>
          refine (l1In_any x.room (-1) 10 _).mono ?_
          rintro e w9_ ⟨rfl,hw9⟩
          subst hw9
          rw [decide_eq_false u1]
          have HN:Hid (¬ ceP x):=fun q=>u1 (q.2.2.2.2.2.2.2.2.2.2 HCA.out).1
          clear u1
          go_wp2
          go_ret
          exact says_f HN.out B101.out
         refine (l1In_any x.room (-1) 10 _).mono ?_
         rintro e w9_ ⟨rfl,hw9⟩
         subst hw9
         rw [decide_eq_true u1]
         have Hu1:Hid (-1≤x.room∧x.room≤10):=u1
         clear u1
         have p12:w101.cell? ⟨w.heap.size,12,none⟩=some (.slice a4 n4 c4):=qk Y101.out rfl
         go_wp2_with fail
         refine (l9Bases_any a4 n4 c4 x.per _ (HKN.out _ B101.out).r4 HZ.out.2.2.2.1.2).mono ?_
         rintro e w102 ⟨v_,rfl,hv_,hb_⟩
         have B102:Hid (Below w.heap.size w w102):=B101.out.trans (hb_.mono B101.out.size)
         have Y102:Hid (w102.heap[w.heap.size]? = some (.cells #[.int .i64 x.ser,.slice a1 n1 c1,.slice a2 n2 c2,.int .i64 x.frm,.int .i64 x.til,.int .i64 x.key.1,.int .u64 x.key.2.1,.int .i64 x.key.2.2,.bool x.ca,.int .i64 x.room,.int .i64 x.uses,.slice a3 n3 c3,.slice a4 n4 c4,.slice a5 n5 c5,.slice a6 n6 c6,.slice a7 k c7,.int .i64 x.need,.int .i64 x.nomap,.int .i64 x.noany,.slice a8 n8 c8,.slice a9 n9 c9] 46)):=(hb_.block _ (Array.getElem?_eq_some_iff.1 Y101.out).1).trans Y101.out
         have HV:Hid _:=hv_
         clear hv_ hb_
         clear p15 p9 p12
         rcases v_ with _ | _
         ·have HN:Hid (¬ ceP x):=fun q=>by have:=HV.out.2 (by have h1:=(q.2.2.2.2.2.2.2.2.2.2 HCA.out).2.2.2.2.1; rw [HL4.out] at h1; exact h1); cases this
          go_wp2
          go_ret
          exact says_f HN.out B102.out
         have Hu2:Hid (basesP x.per n4):=HV.out.1 rfl
         clear HV
         have p13:w102.cell? ⟨w.heap.size,13,none⟩=some (.slice a5 n5 c5):=qk Y102.out rfl
         go_wp2_with fail
         refine (l9Bases_any a5 n5 c5 x.den _ (HKN.out _ B102.out).r5 HZ.out.2.2.2.2.1.2).mono ?_
         rintro e w103 ⟨v_,rfl,hv_,hb_⟩
         have B103:Hid (Below w.heap.size w w103):=B102.out.trans (hb_.mono B102.out.size)
         have Y103:Hid (w103.heap[w.heap.size]? = some (.cells #[.int .i64 x.ser,.slice a1 n1 c1,.slice a2 n2 c2,.int .i64 x.frm,.int .i64 x.til,.int .i64 x.key.1,.int .u64 x.key.2.1,.int .i64 x.key.2.2,.bool x.ca,.int .i64 x.room,.int .i64 x.uses,.slice a3 n3 c3,.slice a4 n4 c4,.slice a5 n5 c5,.slice a6 n6 c6,.slice a7 k c7,.int .i64 x.need,.int .i64 x.nomap,.int .i64 x.noany,.slice a8 n8 c8,.slice a9 n9 c9] 46)):=(hb_.block _ (Array.getElem?_eq_some_iff.1 Y102.out).1).trans Y102.out
         have HV:Hid _:=hv_
         clear hv_ hb_
         clear p13
         rcases v_ with _ | _
         ·have HN:Hid (¬ ceP x):=fun q=>by have:=HV.out.2 (by have h1:=(q.2.2.2.2.2.2.2.2.2.2 HCA.out).2.2.2.2.2.1; rw [HL5.out] at h1; exact h1); cases this
          go_wp2
          go_ret
          exact says_f HN.out B103.out
         have Hu3:Hid (basesP x.den n5):=HV.out.1 rfl
         clear HV
         have p16:w103.cell? ⟨w.heap.size,16,none⟩=some (.int .i64 x.need):=qk Y103.out rfl
         go_wp2_with fail
         by_cases u4 : -1≤x.need∧x.need≤10
         case neg =>
          refine (l1In_any x.need (-1) 10 _).mono ?_
          rintro e w9_ ⟨rfl,hw9⟩
          subst hw9
          rw [decide_eq_false u4]
          have HN:Hid (¬ ceP x):=fun q=>u4 (q.2.2.2.2.2.2.2.2.2.2 HCA.out).2.1
          clear u4
          go_wp2
          go_ret
          exact says_f HN.out B103.out
         refine (l1In_any x.need (-1) 10 _).mono ?_
         rintro e w9_ ⟨rfl,hw9⟩
         subst hw9
         rw [decide_eq_true u4]
         have Hu4:Hid (-1≤x.need∧x.need≤10):=u4
         clear u4
         have p17:w103.cell? ⟨w.heap.size,17,none⟩=some (.int .i64 x.nomap):=qk Y103.out rfl
         go_wp2_with fail
         by_cases u5 : -1≤x.nomap∧x.nomap≤10
         case neg =>
          refine (l1In_any x.nomap (-1) 10 _).mono ?_
          rintro e w9_ ⟨rfl,hw9⟩
          subst hw9
          rw [decide_eq_false u5]
          have HN:Hid (¬ ceP x):=fun q=>u5 (q.2.2.2.2.2.2.2.2.2.2 HCA.out).2.2.1
          clear u5
          go_wp2
          go_ret
          exact says_f HN.out B103.out
         refine (l1In_any x.nomap (-1) 10 _).mono ?_
         rintro e w9_ ⟨rfl,hw9⟩
         subst hw9
         rw [decide_eq_true u5]
         have Hu5:Hid (-1≤x.nomap∧x.nomap≤10):=u5
         clear u5
         have p18:w103.cell? ⟨w.heap.size,18,none⟩=some (.int .i64 x.noany):=qk Y103.out rfl
         go_wp2_with fail
         by_cases u6 : -1≤x.noany∧x.noany≤10
         case neg =>
          refine (l1In_any x.noany (-1) 10 _).mono ?_
          rintro e w9_ ⟨rfl,hw9⟩
          subst hw9
          rw [decide_eq_false u6]
          have HN:Hid (¬ ceP x):=fun q=>u6 (q.2.2.2.2.2.2.2.2.2.2 HCA.out).2.2.2.1
          clear u6
          go_wp2
          go_ret
          exact says_f HN.out B103.out
         refine (l1In_any x.noany (-1) 10 _).mono ?_
         rintro e w9_ ⟨rfl,hw9⟩
         subst hw9
         rw [decide_eq_true u6]
         have Hu6:Hid (-1≤x.noany∧x.noany≤10):=u6
         clear u6
         have HT:Hid (ceP x):=⟨Hq1.out,⟨Hq2.out,HNE.out⟩,⟨Hq3.out,HOR.out,by rw [HL3.out]; exact Hq8.out⟩,⟨Hq4.out,Hq5.out,HSP.out⟩,Hq6.out,Hq7.out,HPL.out,HEX.out,HSG.out,⟨fun e=>(by rw [HCA.out] at e; cases e),fun _=>⟨Hu1.out,Hu4.out,Hu5.out,Hu6.out,by rw [HL4.out]; exact Hu2.out,by rw [HL5.out]; exact Hu3.out,HMA.out⟩⟩⟩
         go_wp2
         go_ret
         exact says_t HT.out B103.out
     obtain ⟨b,off,⟨e1,m1,d1⟩,hae,hlb,hc,hp⟩:=HK.out.r8.get k hkn
     obtain ⟨y,hy⟩:∃ y,y=x.ext.getD k default:=⟨_,rfl⟩
     rw [← hy] at hc hp
     have HY:Hid (y=x.ext.getD k default):=hy
     have HYL:Hid (y.val.length=m1):=hp.r1.len
     have hm1:=hp.m1
     have HAE:Hid (a8=some ⟨b,off,none⟩):=hae
     replace hc:=hc.of (w':=wb) (fun i=>Br.out.cell (p:=⟨b,i,none⟩) hlb)
     have f0:wb.cell? ⟨b,off+k * 3,none⟩=some (.int .i64 y.id):=hc.c0
     have f1:wb.cell? ⟨b,off+k * 3+1,none⟩=some (.bool y.crit):=hc.c1
     have f2:wb.cell? ⟨b,off+k * 3+2,none⟩=some (.slice e1 m1 d1):=hc.c2
     have p19:wb.cell? ⟨w.heap.size,19,none⟩=some (.slice (some ⟨b,off,none⟩) n8 c8):=by rw [← hae]; exact (cell_of_row _ _ 19 _ 46 (0,0) Yr.out).trans rfl
     obtain ⟨W2,hW2⟩:∃ W2,W2=wb.alloc (.cells #[.int .i64 y.id,.bool y.crit,.slice e1 m1 d1] 113):=⟨_,rfl⟩
     have hb2:Below wb.heap.size wb W2:=by rw [hW2]; exact (Below.refl _ _).alloc (Nat.le_refl _) _
     have E2:Hid (W2.heap[wb.heap.size]? = some (.cells #[.int .i64 y.id,.bool y.crit,.slice e1 m1 d1] 113)):=by show _=_; rw [hW2]; exact heap_alloc_new wb _
     have B2:Hid (Below w.heap.size w W2):=Br.out.trans (hb2.mono Br.out.size)
     have BA2:Hid (Below wa.heap.size wa W2):=hbr.trans (hb2.mono hbr.size)
     have hkni:(k:Int)<(n8:Int):=by omega
     have HW2:Hid (_=_):=hW2
     clear hW2 hc hp hy hae
     go_upto_region 16 with fail
     rw [← HW2.out]
     clear HW2 f0 f1 f2 p19
     have g0:W2.cell? ⟨wb.heap.size,0,none⟩=some (.int .i64 y.id):=qk E2.out rfl
     have g2:W2.cell? ⟨wb.heap.size,2,none⟩=some (.slice e1 m1 d1):=qk E2.out rfl
     have p19:W2.cell? ⟨w.heap.size,19,none⟩=some (.slice (some ⟨b,off,none⟩) n8 c8):=by rw [← HAE.out]; exact (cell_of_row _ _ 19 _ 46 (0,0) ((hb2.block _ (Array.getElem?_eq_some_iff.1 Yr.out).1).trans Yr.out)).trans rfl
     clear hb2
     rcases k with _ | m
     ·by_cases r1:1≤y.id∧y.id≤1000
      case neg =>
       have HD1:Hid (decide (1≤y.id∧y.id≤1000)=false):=decide_eq_false r1
       have HR:Hid (¬ (1≤y.id∧y.id≤1000)):=r1
       clear r1
       have HN:Hid (¬ ceP x):=fun q=>HR.out (by have:=(q.2.2.2.2.2.2.2.1.2 0 (by rw [HL8.out]; exact hkn)).1; rw [← HY.out] at this; exact this)
       go_wp2_with fail
       go_quiet (first
        | (go_at_call 74; refine Calls.quiet_of_same (ceBool (l1In_any y.id 1 1000 _) HD1.out)))
       go_wp2
       go_ret
       exact says_f HN.out (ceDrew B2.out _)
      have HD1:Hid (decide (1≤y.id∧y.id≤1000)=true):=decide_eq_true r1
      have HR1:Hid (1≤y.id∧y.id≤1000):=r1
      clear r1
      by_cases r3:(30:Int)<(m1:Int)
      case pos =>
       have HN:Hid (¬ ceP x):=fun q=>by have:=(q.2.2.2.2.2.2.2.1.2 0 (by rw [HL8.out]; exact hkn)).2.2; rw [← HY.out,HYL.out] at this; omega
       go_wp2_with fail
       go_quiet (first
        | (go_at_call 74; refine Calls.quiet_of_same (ceBool (l1In_any y.id 1 1000 _) HD1.out)))
       go_wp2
       go_ret
       exact says_f HN.out (ceDrew B2.out _)
      have HX:Hid (∀ j,j<0+1→extAt x.ext j):=fun j hj=>by
       by_cases e:j=0
       ·subst e
        exact ⟨by rw [← HY.out]; exact HR1.out,fun h=>absurd h (by decide),by rw [← HY.out,HYL.out]; omega⟩
       ·exact HE.out j (by omega)
      go_wp2_with fail
      go_quiet (first
       | (go_at_call 74; refine Calls.quiet_of_same (ceBool (l1In_any y.id 1 1000 _) HD1.out)))
      go_wp2
      go_roundw
      case rel=>exact ⟨0+1,by omega,by go_num,HX,ceDrew BA2.out _⟩
      case measure=>simp [intOf]; omega
     ·obtain ⟨b9,off9,⟨e9,m9,d9⟩,hae9,hlb9,hc9,hp9⟩:=HK.out.r8.get m (show m<n8 by omega)
      rw [HAE.out] at hae9
      obtain ⟨rfl,rfl⟩:b=b9∧off=off9:=by simpa using hae9
      obtain ⟨z,hz8⟩:∃ z,z=x.ext.getD m default:=⟨_,rfl⟩
      rw [← hz8] at hc9
      have HZ8:Hid (z=x.ext.getD m default):=hz8
      have f0:W2.cell? ⟨b,off+m * 3,none⟩=some (.int .i64 z.id):=(hc9.of (w':=W2) (fun i=>B2.out.cell (p:=⟨b,i,none⟩) hlb9)).c0
      have hmn:(m:Int)<(n8:Int):=by omega
      have hwm:IntKind.i64.wrap (m:Int)=(m:Int):=wrapC _ (by omega) (by omega)
      clear hc9 hp9 hae9 hz8
      by_cases r1:1≤y.id∧y.id≤1000
      case neg =>
       have HD1:Hid (decide (1≤y.id∧y.id≤1000)=false):=decide_eq_false r1
       have HR:Hid (¬ (1≤y.id∧y.id≤1000)):=r1
       clear r1
       have HN:Hid (¬ ceP x):=fun q=>HR.out (by have:=(q.2.2.2.2.2.2.2.1.2 (m+1) (by rw [HL8.out]; exact hkn)).1; rw [← HY.out] at this; exact this)
       go_wp2_with fail
       go_quiet (first
        | (go_at_call 74; refine Calls.quiet_of_same (ceBool (l1In_any y.id 1 1000 _) HD1.out)))
       go_wp2
       go_ret
       exact says_f HN.out (ceDrew B2.out _)
      have HD1:Hid (decide (1≤y.id∧y.id≤1000)=true):=decide_eq_true r1
      have HR1:Hid (1≤y.id∧y.id≤1000):=r1
      clear r1
      by_cases r2:y.id≤z.id
      case pos =>
       have HN:Hid (¬ ceP x):=fun q=>by have:=(q.2.2.2.2.2.2.2.1.2 (m+1) (by rw [HL8.out]; exact hkn)).2.1 (by omega); rw [← HY.out,Nat.add_sub_cancel,← HZ8.out] at this; omega
       go_wp2_with fail
       go_quiet (first
        | (go_at_call 74; refine Calls.quiet_of_same (ceBool (l1In_any y.id 1 1000 _) HD1.out)))
       go_wp2
       go_ret
       exact says_f HN.out (ceDrew B2.out _)
      have HR2:Hid (z.id<y.id):=by show z.id<y.id; omega
      by_cases r3:(30:Int)<(m1:Int)
      case pos =>
       have HN:Hid (¬ ceP x):=fun q=>by have:=(q.2.2.2.2.2.2.2.1.2 (m+1) (by rw [HL8.out]; exact hkn)).2.2; rw [← HY.out,HYL.out] at this; omega
       go_wp2_with fail
       go_quiet (first
        | (go_at_call 74; refine Calls.quiet_of_same (ceBool (l1In_any y.id 1 1000 _) HD1.out)))
       go_wp2
       go_ret
       exact says_f HN.out (ceDrew B2.out _)
      have HX:Hid (∀ j,j<(m+1)+1→extAt x.ext j):=fun j hj=>by
       by_cases e:j=(m+1)
       ·subst e
        exact ⟨by rw [← HY.out]; exact HR1.out,fun _=>by rw [← HY.out,Nat.add_sub_cancel,← HZ8.out]; exact HR2.out,by rw [← HY.out,HYL.out]; omega⟩
       ·exact HE.out j (by omega)
      go_wp2_with fail
      go_quiet (first
       | (go_at_call 74; refine Calls.quiet_of_same (ceBool (l1In_any y.id 1 1000 _) HD1.out)))
      go_wp2
      go_roundw
      case rel=>exact ⟨(m+1)+1,by omega,by go_num,HX,ceDrew BA2.out _⟩
      case measure=>simp [intOf]; omega
   obtain ⟨b,off,hae,hb,hcell0⟩:=HK.out.r6.get k hlt
   obtain ⟨z,hz⟩:∃ z,z=x.pol.getD k 0:=⟨_,rfl⟩
   rw [← hz] at hcell0
   have hcell:wa.cell? ⟨b,off+k,none⟩=some (.int .i64 z):=(Ba.out.cell (p:=⟨b,off+k,none⟩) hb).trans hcell0
   have HR:Hid (Row64 wa (some ⟨b,off,none⟩) k (x.pol.take k)):=by rw [← hae]; exact ((HKN.out _ Ba.out).r6).take k (by show k≤n6; omega)
   have HZ6:Hid (z=x.pol.getD k 0):=hz
   have p14:wa.cell? ⟨w.heap.size,14,none⟩=some (.slice (some ⟨b,off,none⟩) n6 c6):=by rw [← hae]; exact (cell_of_row _ _ 14 _ 46 (0,0) Ya.out).trans rfl
   have hlti:(k:Int)<(n6:Int):=by omega
   have hkc:k≤c6:=by have:=HC6.out; omega
   clear hz hcell0 hae
   by_cases hs:0≤z∧z≤1000
   ·have HD1:Hid (decide (0≤z∧z≤1000)=true):=decide_eq_true hs
    by_cases hin:z∈x.pol.take k
    ·have HN:Hid (¬ ceP x):=fun q=>q.2.2.2.2.2.2.1.2.2 k (by rw [HL6.out]; exact hlt) (by rw [← HZ6.out]; exact hin)
     have HD2:Hid (decide (z∈x.pol.take k)=true):=decide_eq_true hin
     clear hs hin HA
     go_wp2_with fail
     go_quiet (first
      | (go_at_call 74; refine Calls.quiet_of_same (ceBool (l1In_any z 0 1000 _) HD1.out))
      | (go_at_call 77; refine Calls.quiet_of_same (calls_boolC (l1HasNum_any _ k c6 (x.pol.take k) z _ (HR.out.kept (ceDrew (Below.refl _ _) _)) (by omega)) HD2.out)))
     go_wp2
     go_ret
     exact says_f HN.out (ceDrew Ba.out _)
    ·have HX:Hid (PolN x.pol (k+1)):=fun j hj=>by
      by_cases e:j=k
      ·rw [e,← HZ6.out]; exact ⟨hs,hin⟩
      ·exact HA.out j (by omega)
     have HD2:Hid (decide (z∈x.pol.take k)=false):=decide_eq_false hin
     clear hs hin HA
     go_wp2_with fail
     go_quiet (first
      | (go_at_call 74; refine Calls.quiet_of_same (ceBool (l1In_any z 0 1000 _) HD1.out))
      | (go_at_call 77; refine Calls.quiet_of_same (calls_boolC (l1HasNum_any _ k c6 (x.pol.take k) z _ (HR.out.kept (ceDrew (Below.refl _ _) _)) (by omega)) HD2.out)))
     go_wp2
     go_roundw
     case rel=>exact ⟨k+1,by omega,by go_num,HX,ceDrew hbr _⟩
     case measure=>simp [intOf]; omega
   ·have HN:Hid (¬ ceP x):=fun q=>hs (by have:=q.2.2.2.2.2.2.1.2.1 k (by rw [HL6.out]; exact hlt); rw [← HZ6.out] at this; exact this)
    have HD1:Hid (decide (0≤z∧z≤1000)=false):=decide_eq_false hs
    clear hs HA
    go_wp2_with fail
    go_quiet (first
     | (go_at_call 74; refine Calls.quiet_of_same (ceBool (l1In_any z 0 1000 _) HD1.out)))
    go_wp2
    go_ret
    exact says_f HN.out (ceDrew Ba.out _)
end Go.Proofs.YtmdfbnlgfhjnoaaGreatDoor
