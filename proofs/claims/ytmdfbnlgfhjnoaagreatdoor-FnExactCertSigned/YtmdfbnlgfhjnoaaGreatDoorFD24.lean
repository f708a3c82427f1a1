import Derived.Laws.BitsLemmas
import Derived.Test.YtmdfbnlgfhjnoaaGreatDoorFD20
import Derived.Test.YtmdfbnlgfhjnoaaGreatDoorFD23
set_option maxRecDepth 10000
set_option maxHeartbeats 8000000
set_option linter.unusedVariables false
namespace Go.Proofs.YtmdfbnlgfhjnoaaGreatDoor
open Go.RowKit
theorem wrap_small (n:Int)(h0:0≤n)(h1:n<2 ^ 63):IntKind.i64.wrap n=n:=by
 rw [IntKind.wrap_i64]
 omega
theorem mask_iff (x b:Int)(h0:0≤x)(h1:x≤4294967295)(h2:0≤b)(h3:b≤32):(bits .and .i64 x ((2:Int) ^ (32 - b).toNat - 1) == 0)=true↔x % (2:Int) ^ (32 - b).toNat=0:=by
 rw [bits_mask .i64 63 (by decide) wrap_small (32 - b).toNat (by omega) x h0 (by omega),beq_iff_eq]
theorem pow_bd (b:Int)(h2:0≤b)(h3:b≤32):1≤(2:Int) ^ (32 - b).toNat∧(2:Int) ^ (32 - b).toNat≤4294967296:=by
 have h1:(2:Nat) ^ (32 - b).toNat≤2 ^ 32:=Nat.pow_le_pow_right (by decide) (by omega)
 have h4:0<(2:Nat) ^ (32 - b).toNat:=Nat.two_pow_pos _
 have e:((2 ^ (32 - b).toNat:Nat):Int)=(2:Int) ^ (32 - b).toNat:=by push_cast; rfl
 omega
theorem baseP_1 {g:GT}{xs:List PT}(hk:g.kind=1)(hb:bareB g xs.length=true)(h0:g.bits=0):baseP g xs↔hostP g.text false:=by
 obtain ⟨q1,q2⟩:=bare_12 hb (.inl hk)
 unfold baseP
 constructor
 ·rintro (⟨_,_,h⟩ | ⟨h,_⟩ | ⟨h,_⟩ | ⟨h,_⟩)
  ·exact h
  all_goals omega
 ·exact fun h=>.inl ⟨hk,⟨q1,h0,q2⟩,h⟩
theorem baseP_2 {g:GT}{xs:List PT}(hk:g.kind=2)(hb:bareB g xs.length=true)(h0:g.bits=0):baseP g xs↔mbaseP g.text:=by
 obtain ⟨q1,q2⟩:=bare_12 hb (.inr hk)
 unfold baseP
 constructor
 ·rintro (⟨h,_⟩ | ⟨_,_,h⟩ | ⟨h,_⟩ | ⟨h,_⟩)
  ·omega
  ·exact h
  all_goals omega
 ·exact fun h=>.inr (.inl ⟨hk,⟨q1,h0,q2⟩,h⟩)
theorem baseP_3 {g:GT}{xs:List PT}(hk:g.kind=3)(hb:bareB g xs.length=true):baseP g xs↔((0≤g.addr∧g.addr≤4294967295)∧(0≤g.bits∧g.bits≤32)∧g.addr % (2:Int) ^ (32 - g.bits).toNat=0):=by
 obtain ⟨q1,q2⟩:=bare_3 hb hk
 unfold baseP
 constructor
 ·rintro (⟨h,_⟩ | ⟨h,_⟩ | ⟨_,_,h⟩ | ⟨h,_⟩)
  ·omega
  ·omega
  ·exact h
  ·omega
 ·exact fun h=>.inr (.inr (.inl ⟨hk,⟨q1,q2⟩,h⟩))
theorem baseP_4 {g:GT}{xs:List PT}(hk:g.kind=4)(hb:bareB g xs.length=true)(h0:g.bits=0):baseP g xs↔nameP xs:=by
 obtain ⟨q1,q2⟩:=bare_4 hb hk
 unfold baseP
 constructor
 ·rintro (⟨h,_⟩ | ⟨h,_⟩ | ⟨h,_⟩ | ⟨_,_,h⟩)
  ·omega
  ·omega
  ·omega
  ·exact h
 ·exact fun h=>.inr (.inr (.inr ⟨hk,⟨q1,q2,h0⟩,h⟩))
theorem baseP_bits {g:GT}{xs:List PT}(h:baseP g xs)(hk:g.kind≠3):g.bits=0:=by
 rcases h with ⟨_,⟨_,h,_⟩,_⟩ | ⟨_,⟨_,h,_⟩,_⟩ | ⟨h,_⟩ | ⟨_,⟨_,_,h⟩,_⟩
 ·exact h
 ·exact h
 ·exact absurd h hk
 ·exact h
theorem specBaseOk_any (g:GT)(a:Option Addr)(n c:Nat)(xs:List PT)(w:World)(h:Pts w a n xs)(hz:∀ k,k<n→(xs.getD k default).val.size≤1048576)(hs:g.text.size≤1048576) :
  Calls Tryz.prog 134 #[gnv g a n c] w (SaysB (baseP g xs) w):=by
 obtain ⟨P,hP⟩:∃ P,P=baseP g xs:=⟨_,rfl⟩
 rw [← hP]
 have HP:Hid (P=baseP g xs):=hP
 have HK:Hid (Pts w a n xs):=h
 have HZ:Hid (_):=hz
 have hl:=h.len
 have hmx:=h.max
 clear hP h hz
 have hbl:=below_box 127 w g a n c
 have hbx:=boxG_new 127 w g a n c
 have LB:=l6Bare_any g a n c
 unfold gnv at LB ⊢
 go_enter Tryz.func134,Tryz.ntmps134
 go_wp2_with fail
 refine (LB _).mono ?_
 rintro e w1 ⟨rfl,hb1⟩
 have B1:Below w.heap.size w w1:=hbl.trans (hb1.mono hbl.size)
 obtain ⟨p0,p1,p2,p3,p4⟩:=(hbx.kept hb1).cells
 have hlt:w.heap.size<w1.heap.size:=Nat.lt_of_lt_of_le (by simp) hb1.size
 have HBX:Hid (_):=hbx.kept hb1
 obtain ⟨B,hB⟩:∃ B,B=bareB g n:=⟨_,rfl⟩
 rw [← hB]
 clear LB hbx hbl hb1
 cases B with
 | false =>
  have HN:Hid (¬ P):=by show ¬ P; rw [HP.out]; exact (bare_f (by rw [hl]; exact hB.symm)).2
  clear hB HP HK HZ
  go_wp2
  go_ret
  exact saysB_f HN.out B1
 | true =>
  have HBB:Hid (bareB g xs.length=true):=by show _=true; rw [hl]; exact hB.symm
  clear hB
  by_cases k3:g.kind=3
  ·have HI:Hid (P↔((0≤g.addr∧g.addr≤4294967295)∧(0≤g.bits∧g.bits≤32)∧g.addr % (2:Int) ^ (32 - g.bits).toNat=0)):=by show P↔_; rw [HP.out]; exact baseP_3 k3 HBB.out
   have z3:(g.kind != 3)=false:=by simp [k3]
   have e1:(g.kind == 1)=false:=beq_false_of_ne (by omega)
   have e2:(g.kind == 2)=false:=beq_false_of_ne (by omega)
   have e3:(g.kind == 3)=true:=beq_iff_eq.2 k3
   clear HP HK HZ HBB k3
   cases hbz:(g.bits != 0)
   all_goals
    go_wp2_with fail
    refine (l1In_says g.addr 0 4294967295 _).mono ?_
    rintro e w2 ⟨b1,rfl,HV1,hw2⟩
    subst hw2
    cases b1 with
    | false =>
     have HN:Hid (¬ P):=fun q=>Bool.false_ne_true (HV1.out.2 (HI.out.1 q).1)
     clear HV1 HI
     go_wp2
     go_ret
     exact saysB_f HN.out B1
    | true =>
     have h1:=HV1.out.1 rfl
     clear HV1
     go_wp2_with fail
     refine (l1In_says g.bits 0 32 _).mono ?_
     rintro e w2 ⟨b2,rfl,HV2,hw2⟩
     subst hw2
     cases b2 with
     | false =>
      have HN:Hid (¬ P):=fun q=>Bool.false_ne_true (HV2.out.2 (HI.out.1 q).2.1)
      clear HV2 HI h1
      go_wp2
      go_ret
      exact saysB_f HN.out B1
     | true =>
      have h2:=HV2.out.1 rfl
      have hpb:=pow_bd g.bits h2.1 h2.2
      have HI2:Hid ((bits .and .i64 g.addr ((2:Int) ^ (32 - g.bits).toNat - 1) == 0)=true↔P):=by
       show _↔P
       rw [mask_iff g.addr g.bits h1.1 h1.2 h2.1 h2.2,HI.out]
       exact ⟨fun q=>⟨h1,h2,q⟩,fun q=>q.2.2⟩
      obtain ⟨h10,h11⟩:=h1
      obtain ⟨h20,h21⟩:=h2
      obtain ⟨hp0,hp1⟩:=hpb
      clear HV2 HI
      go_wp2
      go_ret
      exact ⟨_,rfl,HI2,B1⟩
  have z3:(g.kind != 3)=true:=bne_iff_ne.2 k3
  have e3:(g.kind == 3)=false:=beq_false_of_ne k3
  by_cases hb0:g.bits=0
  ·have zb:(g.bits != 0)=false:=by simp [hb0]
   by_cases k1:g.kind=1
   ·have HI:Hid (P↔hostP g.text false):=by show P↔_; rw [HP.out]; exact baseP_1 k1 HBB.out hb0
    have e1:(g.kind == 1)=true:=beq_iff_eq.2 k1
    clear HP HK HZ HBB hb0 k1 k3
    go_wp2_with fail
    refine (specHostOk_any g.text false _).mono ?_
    rintro e w2 ⟨b,rfl,HV,hb2⟩
    have B2:Below w.heap.size w w2:=B1.trans (hb2.mono B1.size)
    go_wp2
    go_ret
    exact ⟨b,rfl,HV.out.trans HI.out.symm,B2⟩
   have e1:(g.kind == 1)=false:=beq_false_of_ne k1
   by_cases k2:g.kind=2
   ·have HI:Hid (P↔mbaseP g.text):=by show P↔_; rw [HP.out]; exact baseP_2 k2 HBB.out hb0
    have e2:(g.kind == 2)=true:=beq_iff_eq.2 k2
    clear HP HK HZ HBB hb0 k1 k2 k3
    go_wp2_with fail
    refine (l6MailOk_any g.text _ hs).mono ?_
    rintro e w2 ⟨b,rfl,HV,hb2⟩
    have B2:Below w.heap.size w w2:=B1.trans (hb2.mono B1.size)
    have HBX2:Hid (_):=HBX.out.kept hb2
    clear HBX p0 p1 p2 p3 p4 hb2
    cases b with
    | true =>
     have HN:Hid P:=HI.out.2 (.inl (HV.out.1 rfl))
     clear HV HI
     go_wp2
     go_ret
     exact saysB_t HN.out B2
    | false =>
     obtain ⟨p0,p1,p2,p3,p4⟩:=HBX2.out.cells
     go_wp2_with fail
     refine (specHostOk_any g.text false _).mono ?_
     rintro e w3 ⟨b3,rfl,HV3,hb3⟩
     have B3:Below w.heap.size w w3:=B2.trans (hb3.mono B2.size)
     have HBX3:Hid (_):=HBX2.out.kept hb3
     clear p0 p1 p2 p3 p4 hb3 HBX2
     cases b3 with
     | true =>
      have HN:Hid P:=HI.out.2 (.inr (.inl (HV3.out.1 rfl)))
      clear HV HI HV3
      go_wp2
      go_ret
      exact saysB_t HN.out B3
     | false =>
      obtain ⟨p0,p1,p2,p3,p4⟩:=HBX3.out.cells
      have HI3:Hid (P↔(0<g.text.size∧cAt g.text 0=46∧hostP (g.text.extract 1 g.text.size) false)):=by
       show P↔_
       rw [HI.out]
       constructor
       ·rintro (q | q | q)
        ·exact absurd (HV.out.2 q) Bool.false_ne_true
        ·exact absurd (HV3.out.2 q) Bool.false_ne_true
        ·exact q
       ·exact fun q=>.inr (.inr q)
      clear HV HV3 HI
      by_cases hp:0<g.text.size
      ·have zp:decide ((0:Int)<(g.text.size:Int))=true:=decide_eq_true (by omega)
       have hx:=cAt_get g.text 0 hp
       by_cases hd:(g.text[0].toNat:Int)=46
       ·have zd:((g.text[0].toNat:Int) == 46)=true:=beq_iff_eq.2 hd
        have HI4:Hid (P↔hostP (g.text.extract 1 g.text.size) false):=⟨fun q=>(HI3.out.1 q).2.2,fun q=>HI3.out.2 ⟨hp,hx.trans hd,q⟩⟩
        clear HI3 hx hd
        go_wp2_with fail
        refine (specHostOk_any (g.text.extract 1 g.text.size) false _).mono ?_
        rintro e w4 ⟨b4,rfl,HV4,hb4⟩
        have B4:Below w.heap.size w w4:=B3.trans (hb4.mono B3.size)
        cases b4 with
        | true =>
         have HN:Hid P:=HI4.out.2 (HV4.out.1 rfl)
         clear HV4 HI4
         go_wp2
         go_ret
         exact saysB_t HN.out B4
        | false =>
         have HN:Hid (¬ P):=fun q=>Bool.false_ne_true (HV4.out.2 (HI4.out.1 q))
         clear HV4 HI4
         go_wp2
         go_ret
         exact saysB_f HN.out B4
       ·have zd:((g.text[0].toNat:Int) == 46)=false:=beq_false_of_ne hd
        have HN:Hid (¬ P):=fun q=>hd (hx.symm.trans (HI3.out.1 q).2.1)
        clear HI3 hx hd
        go_wp2
        go_ret
        exact saysB_f HN.out B3
      ·have zp:decide ((0:Int)<(g.text.size:Int))=false:=decide_eq_false (by omega)
       have HN:Hid (¬ P):=fun q=>hp (HI3.out.1 q).1
       clear HI3
       go_wp2
       go_ret
       exact saysB_f HN.out B3
   have e2:(g.kind == 2)=false:=beq_false_of_ne k2
   by_cases k4:g.kind=4
   ·have HI:Hid (P↔nameP xs):=by show P↔_; rw [HP.out]; exact baseP_4 k4 HBB.out hb0
    have e4:(g.kind == 4)=true:=beq_iff_eq.2 k4
    clear HP HBB hb0 k1 k2 k3 k4
    have SN:=specNameOk_any a n c xs w1 (HK.out.kept B1) HZ.out
    unfold nmv at SN
    go_wp2_with fail
    refine SN.mono ?_
    rintro e w2 ⟨b,rfl,HV,hb2⟩
    have B2:Below w.heap.size w w2:=B1.trans (hb2.mono B1.size)
    clear SN HK HZ
    go_wp2
    go_ret
    exact ⟨b,rfl,HV.out.trans HI.out.symm,B2⟩
   ·have e4:(g.kind == 4)=false:=beq_false_of_ne k4
    have HN:Hid (¬ P):=by show ¬ P; rw [HP.out]; intro q; rcases baseP_kind q with q | q | q | q <;> omega
    clear HP HK HZ HBB hb0 k1 k2 k3 k4
    go_wp2
    go_ret
    exact saysB_f HN.out B1
  ·have zb:(g.bits != 0)=true:=bne_iff_ne.2 hb0
   have HN:Hid (¬ P):=by show ¬ P; rw [HP.out]; exact fun q=>hb0 (baseP_bits q k3)
   clear HP HK HZ HBB hb0 k3
   go_wp2
   go_ret
   exact saysB_f HN.out B1
open Go.RowKit
theorem baseP_is1 {g:GT}{xs:List PT}{n:Nat}(hl:xs.length=n)(hk:g.kind=1):baseP g xs↔(g.addr == 0 && g.bits == 0 && (n:Int) == 0)=true∧hostP g.text false:=by
 unfold baseP
 simp only [Bool.and_eq_true,beq_iff_eq]
 constructor
 ·rintro (⟨h,q⟩ | ⟨h,q⟩ | ⟨h,q⟩ | ⟨h,q⟩)
  ·exact ⟨⟨⟨q.1.1,q.1.2.1⟩,by omega⟩,q.2⟩
  ·omega
  ·omega
  ·omega
 ·rintro ⟨q,r⟩
  exact .inl ⟨hk,⟨q.1.1,q.1.2,by omega⟩,r⟩
theorem baseP_is2 {g:GT}{xs:List PT}{n:Nat}(hl:xs.length=n)(hk:g.kind=2):baseP g xs↔(g.addr == 0 && g.bits == 0 && (n:Int) == 0)=true∧mbaseP g.text:=by
 unfold baseP
 simp only [Bool.and_eq_true,beq_iff_eq]
 constructor
 ·rintro (⟨h,q⟩ | ⟨h,q⟩ | ⟨h,q⟩ | ⟨h,q⟩)
  ·omega
  ·exact ⟨⟨⟨q.1.1,q.1.2.1⟩,by omega⟩,q.2⟩
  ·omega
  ·omega
 ·rintro ⟨q,r⟩
  exact .inr (.inl ⟨hk,⟨q.1.1,q.1.2,by omega⟩,r⟩)
theorem baseP_is3 {g:GT}{xs:List PT}{n:Nat}(hl:xs.length=n)(hk:g.kind=3):baseP g xs↔(g.text.toList.isEmpty && (n:Int) == 0)=true∧((0≤g.addr∧g.addr≤4294967295)∧(0≤g.bits∧g.bits≤32)∧g.addr % (2:Int) ^ (32 - g.bits).toNat=0):=by
 unfold baseP
 simp only [Bool.and_eq_true,beq_iff_eq,empty_iff]
 constructor
 ·rintro (⟨h,q⟩ | ⟨h,q⟩ | ⟨h,q⟩ | ⟨h,q⟩)
  ·omega
  ·omega
  ·exact ⟨⟨q.1.1,by omega⟩,q.2⟩
  ·omega
 ·rintro ⟨q,r⟩
  exact .inr (.inr (.inl ⟨hk,⟨q.1,by omega⟩,r⟩))
theorem baseP_is4 {g:GT}{xs:List PT}{n:Nat}(_hl:xs.length=n)(hk:g.kind=4):baseP g xs↔(g.text.toList.isEmpty && g.addr == 0 && g.bits == 0)=true∧nameP xs:=by
 unfold baseP
 simp only [Bool.and_eq_true,beq_iff_eq,empty_iff]
 constructor
 ·rintro (⟨h,q⟩ | ⟨h,q⟩ | ⟨h,q⟩ | ⟨h,q⟩)
  ·omega
  ·omega
  ·omega
  ·exact ⟨⟨⟨q.1.1,q.1.2.1⟩,q.1.2.2⟩,q.2⟩
 ·rintro ⟨q,r⟩
  exact .inr (.inr (.inr ⟨hk,⟨q.1.1,q.1.2,q.2⟩,r⟩))
theorem implBaseOk_any (g:GT)(a:Option Addr)(n c:Nat)(xs:List PT)(w:World)(hm:MaxW w)(h:Pts w a n xs)(hz:∀ k,k<n→(xs.getD k default).val.size≤1048576)(hs:g.text.size≤1048576) :
  Calls Tryz.prog 146 #[gnv g a n c] w (SaysB (baseP g xs) w):=by
 obtain ⟨P,hP⟩:∃ P,P=baseP g xs:=⟨_,rfl⟩
 rw [← hP]
 have HP:Hid (P=baseP g xs):=hP
 have HK:Hid (Pts w a n xs):=h
 have HZ:Hid (_):=hz
 have HM:Hid (MaxW w):=hm
 have hl:=h.len
 have hmx:=h.max
 clear hP h hz hm
 have hbl:=below_box 127 w g a n c
 have hbx:=boxG_new 127 w g a n c
 by_cases k1:g.kind=1
 ·have GR:∀ w,Calls Tryz.prog 173 #[.int .i64 g.kind] w fun e w'=>e=.returned (.tuple #[.agg #[.func (Fn.func 189) #[] #[],.func (Fn.func 190) #[] #[],.func (Fn.func 191) #[] #[],.func (Fn.func 192) #[] #[]],.bool true])∧Below w.heap.size w w':=fun w=>by rw [k1]; exact genRulesOf_1 w
  have HI:Hid (P↔(g.addr == 0 && g.bits == 0 && (n:Int) == 0)=true∧hostP g.text false):=by show P↔_; rw [HP.out]; exact baseP_is1 hl k1
  clear k1 HP
  have HO:=onlyText_any g a n c
  unfold gnv at HO ⊢
  go_enter Tryz.func146,Tryz.ntmps146
  go_wp2_with fail
  refine (GR _).mono ?_
  rintro e w1 ⟨rfl,hb1⟩
  have B1:=hbl.trans (hb1.mono hbl.size)
  obtain ⟨p0,p1,p2,p3,p4⟩:=(hbx.kept hb1).cells
  have hlt:w.heap.size<w1.heap.size:=Nat.lt_of_lt_of_le (by simp) hb1.size
  have hbk:=hbx.kept hb1
  obtain ⟨W1,hW1⟩:∃ W1,W1=w1.alloc (.cells #[.func (Fn.func 189) #[] #[],.func (Fn.func 190) #[] #[],.func (Fn.func 191) #[] #[],.func (Fn.func 192) #[] #[]] 209):=⟨_,rfl⟩
  have hb2:Below w1.heap.size w1 W1:=by rw [hW1]; exact (Below.refl _ _).alloc (Nat.le_refl _) _
  have B2:=B1.trans (hb2.mono B1.size)
  have hru:W1.heap[w1.heap.size]? = some (.cells #[.func (Fn.func 189) #[] #[],.func (Fn.func 190) #[] #[],.func (Fn.func 191) #[] #[],.func (Fn.func 192) #[] #[]] 209 (0,0)):=by rw [hW1]; exact heap_alloc_new w1 _
  have HRU:Hid (_):=hru
  have HBK:Hid (_):=hbk.kept hb2
  clear GR hbl hbx hbk hru
  obtain ⟨O,hO⟩:∃ O,O=(g.addr == 0 && g.bits == 0 && (n:Int) == 0):=⟨_,rfl⟩
  go_wp2_with fail
  rw [← hW1]
  refine (HO _).mono ?_
  rintro e w3 ⟨rfl,hb3⟩
  rw [← hO] at HI ⊢
  have B3:=B2.trans (hb3.mono B2.size)
  clear HO hO hW1 p0 p1 p2 p3 p4
  cases O with
  | false =>
   have HN:Hid (¬ P):=fun q=>Bool.false_ne_true (HI.out.1 q).1
   clear HI
   go_wp2
   go_ret
   exact saysB_f HN.out B3
  | true =>
   have HI2:Hid (P↔hostP g.text false):=⟨fun q=>(HI.out.1 q).2,fun q=>HI.out.2 ⟨rfl,q⟩⟩
   clear HI
   obtain ⟨p0,p1,p2,p3,p4⟩:=(HBK.out.kept hb3).cells
   have hr3:w3.heap[w1.heap.size]? = some (.cells #[.func (Fn.func 189) #[] #[],.func (Fn.func 190) #[] #[],.func (Fn.func 191) #[] #[],.func (Fn.func 192) #[] #[]] 209 (0,0)):=(hb3.block _ (Array.getElem?_eq_some_iff.1 HRU.out).1).trans HRU.out
   have f2:w3.cell? ⟨w1.heap.size,2,none⟩=some (.func (Fn.func 191) #[] #[]):=qk hr3 rfl
   clear hr3 HRU HBK
   have NM:=hostBase_any g a n c w3 (HM.out.kept B3)
   unfold gnv at NM
   go_wp2_with fail
   refine NM.mono ?_
   rintro e w4 ⟨b,rfl,HV,hb4⟩
   have B4:=B3.trans (hb4.mono B3.size)
   clear NM
   cases b with
   | false =>
    have HN:Hid (¬ P):=fun q=>Bool.false_ne_true (HV.out.2 (HI2.out.1 q))
    clear HV HI2
    go_wp2
    go_ret
    exact saysB_f HN.out B4
   | true =>
    have HN:Hid P:=HI2.out.2 (HV.out.1 rfl)
    clear HV HI2
    go_wp2
    go_ret
    exact saysB_t HN.out B4
 by_cases k2:g.kind=2
 ·have GR:∀ w,Calls Tryz.prog 173 #[.int .i64 g.kind] w fun e w'=>e=.returned (.tuple #[.agg #[.func (Fn.func 189) #[] #[],.func (Fn.func 193) #[] #[],.func (Fn.func 194) #[] #[],.func (Fn.func 195) #[] #[]],.bool true])∧Below w.heap.size w w':=fun w=>by rw [k2]; exact genRulesOf_2 w
  have HI:Hid (P↔(g.addr == 0 && g.bits == 0 && (n:Int) == 0)=true∧mbaseP g.text):=by show P↔_; rw [HP.out]; exact baseP_is2 hl k2
  clear k1 k2 HP
  have HO:=onlyText_any g a n c
  unfold gnv at HO ⊢
  go_enter Tryz.func146,Tryz.ntmps146
  go_wp2_with fail
  refine (GR _).mono ?_
  rintro e w1 ⟨rfl,hb1⟩
  have B1:=hbl.trans (hb1.mono hbl.size)
  obtain ⟨p0,p1,p2,p3,p4⟩:=(hbx.kept hb1).cells
  have hlt:w.heap.size<w1.heap.size:=Nat.lt_of_lt_of_le (by simp) hb1.size
  have hbk:=hbx.kept hb1
  obtain ⟨W1,hW1⟩:∃ W1,W1=w1.alloc (.cells #[.func (Fn.func 189) #[] #[],.func (Fn.func 193) #[] #[],.func (Fn.func 194) #[] #[],.func (Fn.func 195) #[] #[]] 209):=⟨_,rfl⟩
  have hb2:Below w1.heap.size w1 W1:=by rw [hW1]; exact (Below.refl _ _).alloc (Nat.le_refl _) _
  have B2:=B1.trans (hb2.mono B1.size)
  have hru:W1.heap[w1.heap.size]? = some (.cells #[.func (Fn.func 189) #[] #[],.func (Fn.func 193) #[] #[],.func (Fn.func 194) #[] #[],.func (Fn.func 195) #[] #[]] 209 (0,0)):=by rw [hW1]; exact heap_alloc_new w1 _
  have HRU:Hid (_):=hru
  have HBK:Hid (_):=hbk.kept hb2
  clear GR hbl hbx hbk hru
  obtain ⟨O,hO⟩:∃ O,O=(g.addr == 0 && g.bits == 0 && (n:Int) == 0):=⟨_,rfl⟩
  go_wp2_with fail
  rw [← hW1]
  refine (HO _).mono ?_
  rintro e w3 ⟨rfl,hb3⟩
  rw [← hO] at HI ⊢
  have B3:=B2.trans (hb3.mono B2.size)
  clear HO hO hW1 p0 p1 p2 p3 p4
  cases O with
  | false =>
   have HN:Hid (¬ P):=fun q=>Bool.false_ne_true (HI.out.1 q).1
   clear HI
   go_wp2
   go_ret
   exact saysB_f HN.out B3
  | true =>
   have HI2:Hid (P↔mbaseP g.text):=⟨fun q=>(HI.out.1 q).2,fun q=>HI.out.2 ⟨rfl,q⟩⟩
   clear HI
   obtain ⟨p0,p1,p2,p3,p4⟩:=(HBK.out.kept hb3).cells
   have hr3:w3.heap[w1.heap.size]? = some (.cells #[.func (Fn.func 189) #[] #[],.func (Fn.func 193) #[] #[],.func (Fn.func 194) #[] #[],.func (Fn.func 195) #[] #[]] 209 (0,0)):=(hb3.block _ (Array.getElem?_eq_some_iff.1 HRU.out).1).trans HRU.out
   have f2:w3.cell? ⟨w1.heap.size,2,none⟩=some (.func (Fn.func 194) #[] #[]):=qk hr3 rfl
   clear hr3 HRU HBK
   have NM:=mailBase_any g a n c w3 (HM.out.kept B3) hs
   unfold gnv at NM
   go_wp2_with fail
   refine NM.mono ?_
   rintro e w4 ⟨b,rfl,HV,hb4⟩
   have B4:=B3.trans (hb4.mono B3.size)
   clear NM
   cases b with
   | false =>
    have HN:Hid (¬ P):=fun q=>Bool.false_ne_true (HV.out.2 (HI2.out.1 q))
    clear HV HI2
    go_wp2
    go_ret
    exact saysB_f HN.out B4
   | true =>
    have HN:Hid P:=HI2.out.2 (HV.out.1 rfl)
    clear HV HI2
    go_wp2
    go_ret
    exact saysB_t HN.out B4
 by_cases k3:g.kind=3
 ·have GR:∀ w,Calls Tryz.prog 173 #[.int .i64 g.kind] w fun e w'=>e=.returned (.tuple #[.agg #[.func (Fn.func 196) #[] #[],.func (Fn.func 197) #[] #[],.func (Fn.func 198) #[] #[],.func (Fn.func 199) #[] #[]],.bool true])∧Below w.heap.size w w':=fun w=>by rw [k3]; exact genRulesOf_3 w
  have HI:Hid (P↔(g.text.toList.isEmpty && (n:Int) == 0)=true∧((0≤g.addr∧g.addr≤4294967295)∧(0≤g.bits∧g.bits≤32)∧g.addr % (2:Int) ^ (32 - g.bits).toNat=0)):=by show P↔_; rw [HP.out]; exact baseP_is3 hl k3
  clear k1 k2 k3 HP
  have HO:=onlyAddr_any g a n c
  unfold gnv at HO ⊢
  go_enter Tryz.func146,Tryz.ntmps146
  go_wp2_with fail
  refine (GR _).mono ?_
  rintro e w1 ⟨rfl,hb1⟩
  have B1:=hbl.trans (hb1.mono hbl.size)
  obtain ⟨p0,p1,p2,p3,p4⟩:=(hbx.kept hb1).cells
  have hlt:w.heap.size<w1.heap.size:=Nat.lt_of_lt_of_le (by simp) hb1.size
  have hbk:=hbx.kept hb1
  obtain ⟨W1,hW1⟩:∃ W1,W1=w1.alloc (.cells #[.func (Fn.func 196) #[] #[],.func (Fn.func 197) #[] #[],.func (Fn.func 198) #[] #[],.func (Fn.func 199) #[] #[]] 209):=⟨_,rfl⟩
  have hb2:Below w1.heap.size w1 W1:=by rw [hW1]; exact (Below.refl _ _).alloc (Nat.le_refl _) _
  have B2:=B1.trans (hb2.mono B1.size)
  have hru:W1.heap[w1.heap.size]? = some (.cells #[.func (Fn.func 196) #[] #[],.func (Fn.func 197) #[] #[],.func (Fn.func 198) #[] #[],.func (Fn.func 199) #[] #[]] 209 (0,0)):=by rw [hW1]; exact heap_alloc_new w1 _
  have HRU:Hid (_):=hru
  have HBK:Hid (_):=hbk.kept hb2
  clear GR hbl hbx hbk hru
  obtain ⟨O,hO⟩:∃ O,O=(g.text.toList.isEmpty && (n:Int) == 0):=⟨_,rfl⟩
  go_wp2_with fail
  rw [← hW1]
  refine (HO _).mono ?_
  rintro e w3 ⟨rfl,hb3⟩
  rw [← hO] at HI ⊢
  have B3:=B2.trans (hb3.mono B2.size)
  clear HO hO hW1 p0 p1 p2 p3 p4
  cases O with
  | false =>
   have HN:Hid (¬ P):=fun q=>Bool.false_ne_true (HI.out.1 q).1
   clear HI
   go_wp2
   go_ret
   exact saysB_f HN.out B3
  | true =>
   have HI2:Hid (P↔((0≤g.addr∧g.addr≤4294967295)∧(0≤g.bits∧g.bits≤32)∧g.addr % (2:Int) ^ (32 - g.bits).toNat=0)):=⟨fun q=>(HI.out.1 q).2,fun q=>HI.out.2 ⟨rfl,q⟩⟩
   clear HI
   obtain ⟨p0,p1,p2,p3,p4⟩:=(HBK.out.kept hb3).cells
   have hr3:w3.heap[w1.heap.size]? = some (.cells #[.func (Fn.func 196) #[] #[],.func (Fn.func 197) #[] #[],.func (Fn.func 198) #[] #[],.func (Fn.func 199) #[] #[]] 209 (0,0)):=(hb3.block _ (Array.getElem?_eq_some_iff.1 HRU.out).1).trans HRU.out
   have f2:w3.cell? ⟨w1.heap.size,2,none⟩=some (.func (Fn.func 198) #[] #[]):=qk hr3 rfl
   clear hr3 HRU HBK
   have NM:=addrBase_any g a n c w3
   unfold gnv at NM
   go_wp2_with fail
   refine NM.mono ?_
   rintro e w4 ⟨b,rfl,HV,hb4⟩
   have B4:=B3.trans (hb4.mono B3.size)
   clear NM
   cases b with
   | false =>
    have HN:Hid (¬ P):=fun q=>Bool.false_ne_true (HV.out.2 (HI2.out.1 q))
    clear HV HI2
    go_wp2
    go_ret
    exact saysB_f HN.out B4
   | true =>
    have HN:Hid P:=HI2.out.2 (HV.out.1 rfl)
    clear HV HI2
    go_wp2
    go_ret
    exact saysB_t HN.out B4
 by_cases k4:g.kind=4
 ·have GR:∀ w,Calls Tryz.prog 173 #[.int .i64 g.kind] w fun e w'=>e=.returned (.tuple #[.agg #[.func (Fn.func 200) #[] #[],.func (Fn.func 201) #[] #[],.func (Fn.func 202) #[] #[],.func (Fn.func 203) #[] #[]],.bool true])∧Below w.heap.size w w':=fun w=>by rw [k4]; exact genRulesOf_4 w
  have HI:Hid (P↔(g.text.toList.isEmpty && g.addr == 0 && g.bits == 0)=true∧nameP xs):=by show P↔_; rw [HP.out]; exact baseP_is4 hl k4
  clear k1 k2 k3 k4 HP
  have HO:=onlyName_any g a n c
  unfold gnv at HO ⊢
  go_enter Tryz.func146,Tryz.ntmps146
  go_wp2_with fail
  refine (GR _).mono ?_
  rintro e w1 ⟨rfl,hb1⟩
  have B1:=hbl.trans (hb1.mono hbl.size)
  obtain ⟨p0,p1,p2,p3,p4⟩:=(hbx.kept hb1).cells
  have hlt:w.heap.size<w1.heap.size:=Nat.lt_of_lt_of_le (by simp) hb1.size
  have hbk:=hbx.kept hb1
  obtain ⟨W1,hW1⟩:∃ W1,W1=w1.alloc (.cells #[.func (Fn.func 200) #[] #[],.func (Fn.func 201) #[] #[],.func (Fn.func 202) #[] #[],.func (Fn.func 203) #[] #[]] 209):=⟨_,rfl⟩
  have hb2:Below w1.heap.size w1 W1:=by rw [hW1]; exact (Below.refl _ _).alloc (Nat.le_refl _) _
  have B2:=B1.trans (hb2.mono B1.size)
  have hru:W1.heap[w1.heap.size]? = some (.cells #[.func (Fn.func 200) #[] #[],.func (Fn.func 201) #[] #[],.func (Fn.func 202) #[] #[],.func (Fn.func 203) #[] #[]] 209 (0,0)):=by rw [hW1]; exact heap_alloc_new w1 _
  have HRU:Hid (_):=hru
  have HBK:Hid (_):=hbk.kept hb2
  clear GR hbl hbx hbk hru
  obtain ⟨O,hO⟩:∃ O,O=(g.text.toList.isEmpty && g.addr == 0 && g.bits == 0):=⟨_,rfl⟩
  go_wp2_with fail
  rw [← hW1]
  refine (HO _).mono ?_
  rintro e w3 ⟨rfl,hb3⟩
  rw [← hO] at HI ⊢
  have B3:=B2.trans (hb3.mono B2.size)
  clear HO hO hW1 p0 p1 p2 p3 p4
  cases O with
  | false =>
   have HN:Hid (¬ P):=fun q=>Bool.false_ne_true (HI.out.1 q).1
   clear HI
   go_wp2
   go_ret
   exact saysB_f HN.out B3
  | true =>
   have HI2:Hid (P↔nameP xs):=⟨fun q=>(HI.out.1 q).2,fun q=>HI.out.2 ⟨rfl,q⟩⟩
   clear HI
   obtain ⟨p0,p1,p2,p3,p4⟩:=(HBK.out.kept hb3).cells
   have hr3:w3.heap[w1.heap.size]? = some (.cells #[.func (Fn.func 200) #[] #[],.func (Fn.func 201) #[] #[],.func (Fn.func 202) #[] #[],.func (Fn.func 203) #[] #[]] 209 (0,0)):=(hb3.block _ (Array.getElem?_eq_some_iff.1 HRU.out).1).trans HRU.out
   have f2:w3.cell? ⟨w1.heap.size,2,none⟩=some (.func (Fn.func 202) #[] #[]):=qk hr3 rfl
   clear hr3 HRU HBK
   have NM:=partsBase_any g a n c xs w3 (HK.out.kept B3) HZ.out
   unfold gnv at NM
   go_wp2_with fail
   refine NM.mono ?_
   rintro e w4 ⟨b,rfl,HV,hb4⟩
   have B4:=B3.trans (hb4.mono B3.size)
   clear NM
   cases b with
   | false =>
    have HN:Hid (¬ P):=fun q=>Bool.false_ne_true (HV.out.2 (HI2.out.1 q))
    clear HV HI2
    go_wp2
    go_ret
    exact saysB_f HN.out B4
   | true =>
    have HN:Hid P:=HI2.out.2 (HV.out.1 rfl)
    clear HV HI2
    go_wp2
    go_ret
    exact saysB_t HN.out B4
 have HN:Hid (¬ P):=by show ¬ P; rw [HP.out]; intro q; rcases baseP_kind q with q | q | q | q <;> omega
 have GR:=genRulesOf_none g.kind (w.alloc (.cells #[.int .i64 g.kind,.string g.text,.int .i64 g.addr,.int .i64 g.bits,.slice a n c] 127)) (by omega)
 clear HP HK HZ HM k1 k2 k3 k4
 unfold gnv
 go_enter Tryz.func146,Tryz.ntmps146
 go_wp2_with fail
 refine GR.mono ?_
 rintro e w1 ⟨rfl,hb1⟩
 have B1:=hbl.trans (hb1.mono hbl.size)
 have B2:=B1.alloc B1.size (.cells #[.nilFunc,.nilFunc,.nilFunc,.nilFunc] 209 (0,0))
 go_wp2
 go_ret
 exact saysB_f HN.out B2
end Go.Proofs.YtmdfbnlgfhjnoaaGreatDoor
