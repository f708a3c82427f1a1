import Derived.Test.YtmdfbnlgfhjnoaaGreatDoorFC18
set_option maxRecDepth 10000
set_option maxHeartbeats 8000000
set_option linter.unusedVariables false
namespace Go.Proofs.YtmdfbnlgfhjnoaaGreatDoor
open Go.RowKit
theorem below_box (t:Nat)(w:World)(g:GT)(a:Option Addr)(n c:Nat):Below w.heap.size w (w.alloc (.cells #[.int .i64 g.kind,.string g.text,.int .i64 g.addr,.int .i64 g.bits,.slice a n c] t)):=(Below.refl _ _).alloc (Nat.le_refl _) _
theorem onlyText_any (g:GT)(a:Option Addr)(n c:Nat)(w:World):Calls Tryz.prog 189 #[gnv g a n c] w fun e w'=>e=.returned (.bool (g.addr == 0 && g.bits == 0 && (n:Int) == 0))∧Below w.heap.size w w':=by
 have hbl:=below_box 127 w g a n c
 unfold gnv
 cases h1:(g.addr == 0) <;> cases h2:(g.bits == 0) <;> cases h3:((n:Int) == 0)
 all_goals
  go_enter Tryz.func189,Tryz.ntmps189
  go_wp2
  go_ret
  exact ⟨rfl,hbl⟩
theorem onlyAddr_any (g:GT)(a:Option Addr)(n c:Nat)(w:World):Calls Tryz.prog 196 #[gnv g a n c] w fun e w'=>e=.returned (.bool (g.text.toList.isEmpty && (n:Int) == 0))∧Below w.heap.size w w':=by
 have hbl:=below_box 127 w g a n c
 unfold gnv
 cases h1:g.text.toList.isEmpty <;> cases h3:((n:Int) == 0)
 all_goals
  go_enter Tryz.func196,Tryz.ntmps196
  go_wp2
  go_ret
  exact ⟨rfl,hbl⟩
theorem onlyName_any (g:GT)(a:Option Addr)(n c:Nat)(w:World):Calls Tryz.prog 200 #[gnv g a n c] w fun e w'=>e=.returned (.bool (g.text.toList.isEmpty && g.addr == 0 && g.bits == 0))∧Below w.heap.size w w':=by
 have hbl:=below_box 127 w g a n c
 unfold gnv
 cases h1:g.text.toList.isEmpty <;> cases h2:(g.addr == 0) <;> cases h3:(g.bits == 0)
 all_goals
  go_enter Tryz.func200,Tryz.ntmps200
  go_wp2
  go_ret
  exact ⟨rfl,hbl⟩
theorem hostName_any (g:GT)(a:Option Addr)(n c:Nat)(w:World)(hm:MaxW w):Calls Tryz.prog 190 #[gnv g a n c] w (SaysB (hostP g.text true) w):=by
 have hbl:=below_box 127 w g a n c
 have HM:Hid (MaxW w):=hm
 clear hm
 unfold gnv
 go_enter Tryz.func190,Tryz.ntmps190
 go_wp2_with fail
 refine (implHostOk_any g.text true _ (HM.out.kept hbl)).mono ?_
 rintro e w2 ⟨b,rfl,HV,hb2⟩
 go_wp2
 go_ret
 exact ⟨b,rfl,HV,hbl.trans (hb2.mono hbl.size)⟩
theorem cut_says (s:ByteArray)(cb:UInt8)(w:World)(hs:s.size≤1048576)(hm:MaxW w):Calls Tryz.prog 214 #[.string s,.string ⟨#[cb]⟩] w fun e w'=>∃ x y ok,e=.returned (.tuple #[.string x,.string y,.bool ok]) ∧
  Hid ((ok=true∧∃ t,t<s.size∧cAt s t=(cb.toNat:Int)∧(∀ j,j<t→cAt s j≠(cb.toNat:Int))∧x=s.extract 0 t∧y=s.extract (t+1) s.size)∨(ok=false∧(∀ j,j<s.size→cAt s j≠(cb.toNat:Int))∧x=s∧y=ByteArray.empty))∧Below w.heap.size w w':=by
 obtain ⟨m,hm⟩:=hm
 refine (Tryz.strings_Cut s ⟨#[cb]⟩ m w (by omega) hm).mono ?_
 rintro e w1 ⟨rfl,nn,rfl⟩
 refine ⟨_,_,_,rfl,?_,below_drewM (Below.refl _ _) nn⟩
 rcases index_one s cb s.size 0 (by omega) (fun j h=>absurd h (Nat.not_lt_zero _)) with ⟨h1,_,h3⟩ | ⟨t,h1,h2,h3,h4,_⟩
 ·obtain ⟨e1,e2,e3⟩:=Lib.cutB_miss s ⟨#[cb]⟩ h1
  exact .inr ⟨e3,h3,e1,e2⟩
 ·obtain ⟨e1,e2,e3⟩:=Lib.cutB_hit s ⟨#[cb]⟩ t h1
  exact .inl ⟨e3,t,h2,h3,h4,e1,e2⟩
theorem mailName_any (g:GT)(a:Option Addr)(n c:Nat)(w:World)(hm:MaxW w)(hs:g.text.size≤1048576):Calls Tryz.prog 193 #[gnv g a n c] w (SaysB (mailP g.text) w):=by
 have hbl:=below_box 127 w g a n c
 have HM:Hid (MaxW w):=hm
 clear hm
 unfold gnv
 go_enter Tryz.func193,Tryz.ntmps193
 go_wp2_with fail
 refine (cut_says g.text 64 _ hs (HM.out.kept hbl)).mono ?_
 rintro e w1 ⟨x,y,ok,rfl,HR,hb1⟩
 have B1:=hbl.trans (hb1.mono hbl.size)
 cases ok with
 | false =>
  have HN:Hid (¬ mailP g.text):=by
   show ¬ _
   rcases HR.out with ⟨h,_⟩ | ⟨_,h,_⟩
   ·cases h
   ·exact mailP_none h
  clear HR
  go_wp2
  go_ret
  exact saysB_f HN.out B1
 | true =>
  have HI:Hid (mailP g.text↔localP x∧hostP y false):=by
   show _↔_
   rcases HR.out with ⟨_,t,h1,h2,h3,rfl,rfl⟩ | ⟨h,_⟩
   ·exact mailP_iff h1 h2 h3
   ·cases h
  have hxs:x.size≤g.text.size:=by
   rcases HR.out with ⟨_,t,_,_,_,rfl,_⟩ | ⟨h,_⟩
   ·exact ext_le _ _ _
   ·cases h
  clear HR
  go_wp2_with fail
  refine (wordMail_any x _ (by omega)).mono ?_
  rintro e w2 ⟨b1,rfl,HV1,hw2⟩
  subst hw2
  cases b1 with
  | false =>
   have HN:Hid (¬ mailP g.text):=fun h=>Bool.false_ne_true (HV1.out.2 (HI.out.1 h).1)
   clear HV1 HI
   go_wp2
   go_ret
   exact saysB_f HN.out B1
  | true =>
   have HI2:Hid (mailP g.text↔hostP y false):=⟨fun h=>(HI.out.1 h).2,fun h=>HI.out.2 ⟨HV1.out.1 rfl,h⟩⟩
   clear HV1 HI
   go_wp2_with fail
   refine (implHostOk_any y false _ (HM.out.kept B1)).mono ?_
   rintro e w3 ⟨b2,rfl,HV2,hb2⟩
   have B3:=B1.trans (hb2.mono B1.size)
   cases b2 with
   | false =>
    have HN:Hid (¬ mailP g.text):=fun h=>Bool.false_ne_true (HV2.out.2 (HI2.out.1 h))
    clear HV2 HI2
    go_wp2
    go_ret
    exact saysB_f HN.out B3
   | true =>
    have HN:Hid (mailP g.text):=HI2.out.2 (HV2.out.1 rfl)
    clear HV2 HI2
    go_wp2
    go_ret
    exact saysB_t HN.out B3
theorem addrName_any (g:GT)(a:Option Addr)(n c:Nat)(w:World):Calls Tryz.prog 197 #[gnv g a n c] w (SaysB ((0≤g.addr∧g.addr≤4294967295)∧g.bits=0) w):=by
 have hbl:=below_box 127 w g a n c
 unfold gnv
 go_enter Tryz.func197,Tryz.ntmps197
 go_wp2_with fail
 refine (inBounds_says g.addr 0 4294967295 _).mono ?_
 rintro e w2 ⟨b,rfl,HV,hw2⟩
 subst hw2
 cases b with
 | false =>
  have HN:Hid (¬ ((0≤g.addr∧g.addr≤4294967295)∧g.bits=0)):=fun h=>Bool.false_ne_true (HV.out.2 h.1)
  clear HV
  go_wp2
  go_ret
  exact saysB_f HN.out hbl
 | true =>
  by_cases h0:g.bits=0
  ·have HN:Hid ((0≤g.addr∧g.addr≤4294967295)∧g.bits=0):=⟨HV.out.1 rfl,h0⟩
   have z:(g.bits == 0)=true:=beq_iff_eq.2 h0
   clear HV h0
   go_wp2
   go_ret
   exact saysB_t HN.out hbl
  ·have HN:Hid (¬ ((0≤g.addr∧g.addr≤4294967295)∧g.bits=0)):=fun h=>h0 h.2
   have z:(g.bits == 0)=false:=beq_false_of_ne h0
   clear HV h0
   go_wp2
   go_ret
   exact saysB_f HN.out hbl
theorem partsName_any (g:GT)(a:Option Addr)(n c:Nat)(xs:List PT)(w:World)(h:Pts w a n xs)(hz:∀ k,k<n→(xs.getD k default).val.size≤1048576):Calls Tryz.prog 201 #[gnv g a n c] w (SaysB (nameP xs∧0<xs.length) w):=by
 have hbl:=below_box 127 w g a n c
 have hbx:=boxG_new 127 w g a n c
 have IN:=implNameOk_any a n c xs _ (h.kept hbl) hz
 have hl:=h.len
 clear h hz
 unfold gnv
 unfold nmv at IN
 go_enter Tryz.func201,Tryz.ntmps201
 go_wp2_with fail
 refine IN.mono ?_
 rintro e w2 ⟨b,rfl,HV,hb2⟩
 obtain ⟨_,_,_,_,p4⟩:=(hbx.kept hb2).cells
 have B2:=hbl.trans (hb2.mono hbl.size)
 clear IN hbx
 cases b with
 | false =>
  have HN:Hid (¬ (nameP xs∧0<xs.length)):=fun q=>Bool.false_ne_true (HV.out.2 q.1)
  clear HV
  go_wp2
  go_ret
  exact saysB_f HN.out B2
 | true =>
  by_cases hn0:0<n
  ·have HN:Hid (nameP xs∧0<xs.length):=⟨HV.out.1 rfl,by rw [hl]; exact hn0⟩
   have zn:decide ((0:Int)<(n:Int))=true:=decide_eq_true (by omega)
   clear HV
   go_wp2
   go_ret
   exact saysB_t HN.out B2
  ·have HN:Hid (¬ (nameP xs∧0<xs.length)):=fun q=>hn0 (by rw [← hl]; exact q.2)
   have zn:decide ((0:Int)<(n:Int))=false:=decide_eq_false (by omega)
   clear HV
   go_wp2
   go_ret
   exact saysB_f HN.out B2
end Go.Proofs.YtmdfbnlgfhjnoaaGreatDoor
