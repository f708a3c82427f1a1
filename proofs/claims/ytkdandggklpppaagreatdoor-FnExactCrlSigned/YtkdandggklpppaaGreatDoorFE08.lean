import Derived.Laws.AppendOwnNone
import Derived.Laws.CopyOwn
import Derived.Test.YtkdandggklpppaaGreatDoorFE07
set_option maxRecDepth 10000
set_option maxHeartbeats 8000000
set_option linter.unusedVariables false
namespace Go.Proofs.YtkdandggklpppaaGreatDoor
open Go.RowKit
def expP (x:Int):Prop:=0≤x∧x≤500000002
instance (x:Int):Decidable (expP x):=by unfold expP; infer_instance
def gp (b e:Int):Int:=pw b e.toNat 1000000007
theorem gp_bd (b e:Int):0≤gp b e∧gp b e<1000000007:=mod_bd _ (by decide)
def memP (y:Int):Prop:=(1≤y∧y≤1000000006)∧gp y 500000003=1
def keyP (y:Int):Prop:=memP y∧y≠1
instance (x:Int):Decidable (memP x):=by unfold memP; infer_instance
instance (x:Int):Decidable (keyP x):=by unfold keyP; infer_instance
theorem isExponent_any (x:Int)(w:World):Calls Tryz.prog 155 #[.int .i64 x] w fun r w'=>r=.returned (.bool (decide (expP x)))∧w'=w:=by
 by_cases h:expP x
 ·rw [decide_eq_true h]
  go_enter Tryz.func155,Tryz.ntmps155
  go_wp2_with fail
  refine (inBounds_t x 0 500000002 _ h).mono ?_
  rintro r w1 ⟨rfl,rfl⟩
  go_wp2
  go_ret
  exact ⟨rfl,rfl⟩
 ·rw [decide_eq_false h]
  go_enter Tryz.func155,Tryz.ntmps155
  go_wp2_with fail
  refine (inBounds_f x 0 500000002 _ h).mono ?_
  rintro r w1 ⟨rfl,rfl⟩
  go_wp2
  go_ret
  exact ⟨rfl,rfl⟩
theorem l7Exp_any (x:Int)(w:World):Calls Tryz.prog 64 #[.int .i64 x] w fun r w'=>r=.returned (.bool (decide (expP x)))∧w'=w:=by
 by_cases h:expP x
 ·rw [decide_eq_true h]
  go_enter Tryz.func64,Tryz.ntmps64
  go_wp2_with fail
  refine (l1In_t x 0 500000002 _ h).mono ?_
  rintro r w1 ⟨rfl,rfl⟩
  go_wp2
  go_ret
  exact ⟨rfl,rfl⟩
 ·rw [decide_eq_false h]
  go_enter Tryz.func64,Tryz.ntmps64
  go_wp2_with fail
  refine (l1In_f x 0 500000002 _ h).mono ?_
  rintro r w1 ⟨rfl,rfl⟩
  go_wp2
  go_ret
  exact ⟨rfl,rfl⟩
theorem power_any (b e:Int)(w:World)(hb:0≤b)(hb':b≤1000000006)(he:0≤e)(he':e≤9223372036854775807) :
  Calls Tryz.prog 158 #[.int .i64 b,.int .i64 e] w fun r w'=>r=.returned (.int .i64 (gp b e))∧w'=w:=by
 have HV:Hid (powV b e 1000000007=(gp b e,true)):=by show _=_; unfold powV; rw [if_pos ⟨by decide,⟨hb,by omega⟩,he⟩]; rfl
 go_enter Tryz.func158,Tryz.ntmps158
 go_wp2_with fail
 refine (implPowMod_any b e 1000000007 _ he').mono ?_
 rintro r w1 ⟨rfl,rfl⟩
 rw [HV.out,pair]
 go_wp2
 go_ret
 exact ⟨rfl,rfl⟩
theorem l7PowP_any (b e:Int)(w:World)(hb:0≤b)(hb':b≤1000000006)(he:0≤e)(he':e≤9223372036854775807) :
  Calls Tryz.prog 65 #[.int .i64 b,.int .i64 e,.int .i64 1000000007] w fun r w'=>r=.returned (.int .i64 (gp b e))∧w'=w :=
 l7Pow_any b e 1000000007 w (by decide) (by decide) hb (by omega) he he'
theorem prod_bd {a b m:Int}(ha:0≤a)(ha':a<m)(hb:0≤b)(hb':b<m)(hm:m≤1000000007):0≤a * b∧a * b≤1000000014000000049:=by
 refine ⟨Int.mul_nonneg ha hb,?_⟩
 have h1:a * b≤1000000007 * b:=Int.mul_le_mul_of_nonneg_right (by omega) hb
 omega
theorem isMember_any (y:Int)(w:World):Calls Tryz.prog 154 #[.int .i64 y] w fun r w'=>r=.returned (.bool (decide (memP y)))∧w'=w:=by
 by_cases h:1≤y∧y≤1000000006
 ·have HV:Hid ((gp y 500000003 == 1)=decide (memP y)):=by
   show _=_
   by_cases h2:gp y 500000003=1
   ·rw [decide_eq_true ⟨h,h2⟩,beq_iff_eq.2 h2]
   ·rw [decide_eq_false (fun hh=>h2 hh.2),beq_false_of_ne h2]
  go_enter Tryz.func154,Tryz.ntmps154
  go_wp2_with fail
  refine (inBounds_t y 1 1000000006 _ h).mono ?_
  rintro r w1 ⟨rfl,rfl⟩
  go_wp2_with fail
  refine (power_any y 500000003 _ (by omega) h.2 (by decide) (by decide)).mono ?_
  rintro r w1 ⟨rfl,rfl⟩
  go_wp2
  go_ret
  exact ⟨by rw [← HV.out]; rfl,rfl⟩
 ·rw [decide_eq_false (fun hh=>h hh.1)]
  go_enter Tryz.func154,Tryz.ntmps154
  go_wp2_with fail
  refine (inBounds_f y 1 1000000006 _ h).mono ?_
  rintro r w1 ⟨rfl,rfl⟩
  go_wp2
  go_ret
  exact ⟨rfl,rfl⟩
theorem l7Member_any (y:Int)(w:World):Calls Tryz.prog 63 #[.int .i64 y] w fun r w'=>r=.returned (.bool (decide (memP y)))∧w'=w:=by
 by_cases h:1≤y∧y≤1000000006
 ·have HV:Hid ((gp y 500000003 == 1)=decide (memP y)):=by
   show _=_
   by_cases h2:gp y 500000003=1
   ·rw [decide_eq_true ⟨h,h2⟩,beq_iff_eq.2 h2]
   ·rw [decide_eq_false (fun hh=>h2 hh.2),beq_false_of_ne h2]
  go_enter Tryz.func63,Tryz.ntmps63
  go_wp2_with fail
  refine (l1In_t y 1 1000000006 _ h).mono ?_
  rintro r w1 ⟨rfl,rfl⟩
  go_wp2_with fail
  refine (l7PowP_any y 500000003 _ (by omega) h.2 (by decide) (by decide)).mono ?_
  rintro r w1 ⟨rfl,rfl⟩
  go_wp2
  go_ret
  exact ⟨by rw [← HV.out]; rfl,rfl⟩
 ·rw [decide_eq_false (fun hh=>h hh.1)]
  go_enter Tryz.func63,Tryz.ntmps63
  go_wp2_with fail
  refine (l1In_f y 1 1000000006 _ h).mono ?_
  rintro r w1 ⟨rfl,rfl⟩
  go_wp2
  go_ret
  exact ⟨rfl,rfl⟩
theorem isKey_any (y:Int)(w:World):Calls Tryz.prog 151 #[.int .i64 y] w fun r w'=>r=.returned (.bool (decide (keyP y)))∧w'=w:=by
 by_cases h:y=1
 ·rw [decide_eq_false (fun hh=>hh.2 h)]
  have z:(y != 1)=false:=by simp [h]
  clear h
  go_enter Tryz.func151,Tryz.ntmps151
  go_wp2
  go_ret
  exact ⟨rfl,rfl⟩
 ·have HV:Hid (decide (memP y)=decide (keyP y)):=by
   show _=_
   exact decide_eq_decide.2 ⟨fun hh=>⟨hh,h⟩,fun hh=>hh.1⟩
  have z:(y != 1)=true:=by simp [h]
  clear h
  go_enter Tryz.func151,Tryz.ntmps151
  go_wp2_with fail
  refine (isMember_any y _).mono ?_
  rintro r w1 ⟨rfl,rfl⟩
  go_wp2
  go_ret
  exact ⟨by rw [← HV.out]; rfl,rfl⟩
def movN (r y a b:Int):Int:=r * gp 4 a % 1000000007 * gp y (500000003 - b) % 1000000007
theorem movN_one (y a b:Int):movN 1 y a b=gp 4 a * gp y (500000003 - b) % 1000000007:=by
 unfold movN
 rw [Int.one_mul,Int.emod_eq_of_lt (gp_bd 4 a).1 (gp_bd 4 a).2]
theorem moved_any (r y a b:Int)(w:World)(hr:0≤r)(hr':r≤1000000006)(hy:0≤y)(hy':y≤1000000006)(ha:expP a)(hb:expP b) :
  Calls Tryz.prog 157 #[.int .i64 r,.int .i64 y,.int .i64 a,.int .i64 b] w fun e w'=>e=.returned (.int .i64 (movN r y a b))∧w'=w:=by
 obtain ⟨ha0,ha1⟩:=ha
 obtain ⟨hb0,hb1⟩:=hb
 have HV:Hid (r * gp 4 a % 1000000007 * gp y (500000003 - b) % 1000000007=movN r y a b):=rfl
 obtain ⟨h10,h11⟩:=gp_bd 4 a
 obtain ⟨h20,h21⟩:=gp_bd y (500000003 - b)
 obtain ⟨hp0,hp1⟩:=prod_bd hr (show r<1000000007 by omega) h10 h11 (Int.le_refl _)
 obtain ⟨hm0,hm1⟩:=mod_bd (r * gp 4 a) (show (1:Int)≤1000000007 by decide)
 obtain ⟨hq0,hq1⟩:=prod_bd hm0 hm1 h20 h21 (Int.le_refl _)
 go_enter Tryz.func157,Tryz.ntmps157
 go_wp2_with fail
 refine (power_any 4 a _ (by decide) (by decide) ha0 (by omega)).mono ?_
 rintro e w1 ⟨rfl,rfl⟩
 go_wp2_with fail
 refine (power_any y (500000003 - b) _ hy hy' (by omega) (by omega)).mono ?_
 rintro e w1 ⟨rfl,rfl⟩
 go_wp2
 go_ret
 exact ⟨by rw [← HV.out]; rfl,rfl⟩
open Go.RowKit
theorem row_cells {w:World}{ad:Addr}{m:Nat}{ys:List Int}(h:Row w (some ad) m ys):∀ j u,(ys.map (Value.int .u8))[j]? = some u→w.cell? (ad.add j)=some u:=by
 intro j u hj
 have hjl:j<ys.length:=by
  have:=(List.getElem?_eq_some_iff.1 hj).1
  simpa using this
 obtain ⟨b,off,ha,_,hc⟩:=h.get j (by rw [← h.len]; exact hjl)
 simp only [Option.some.injEq] at ha
 subst ha
 rw [Addr.add_lit,hc]
 simp [hjl] at hj
 simp [hjl,hj]
theorem row_none {w:World}{m:Nat}{ys:List Int}(h:Row w none m ys):m=0∧ys = []:=by
 rcases Nat.eq_zero_or_pos m with h0 | h0
 ·exact ⟨h0,List.eq_nil_of_length_eq_zero (by rw [h.len]; exact h0)⟩
 ·obtain ⟨b,off,ha,_⟩:=h.get 0 h0
  simp at ha
theorem wpList_append_row {P:Program}(w:World){ops:Array Oper}{rest:List Oper}{o:Oper}{a:Act}{Q:Exit→Act→World→Prop}
  (hg:o.guard=none) (s x:Operand) (t:TypeId) (hop:o.op=Op.call { callee:=Callee.builtin Builtin.append,args:=#[s,x],argTypes:=#[t,t] })
  (base:Nat) (i:TypeInfo) (h1:P.underlying t=some (.slice 5)) (h2:P.info? 5=some i) (h3:i.zero=some (.int .u8 0)) (h4:i.size=1) (h5:i.bytes=1)
  (v:Value) (n:Nat) (xs:List Value) (hs:a.eval s=v) (hown:w.ownsRow base 5 1 v n xs)
  (ao:Option Addr) (m c:Nat) (ys:List Int) (hx:a.eval x=.slice ao m c) (hrow:Row w ao m ys) (hnil:ao=none→c=0)
  (b1:n+m≤140737488355328) (b3:base≤w.heap.size)
  (hK:∀ v' w',w'.ownsRow base 5 1 v' (n+m) (xs++ys.map (Value.int .u8))→w.grownBy w' v.ownBlock→wpList P ops Q rest (a.put o.dst v') w') :
  wpList P ops Q (o::rest) a w:=by
 cases ao with
 | some ad =>
  refine wpList_append_own w hg s x t hop base 5 i (.int .u8 0) 1 1 h1 h2 h3 h4 h5 rfl (by decide) v n xs hs hown ad m c (ys.map (Value.int .u8)) hx (by rw [List.length_map,hrow.len,Nat.mul_one]) (row_cells hrow) (ints_oneCell _ _) (by unfold maxLen; omega) (by omega) b3 ?_
  intro v' w' r1 r2 _
  exact hK v' w' r1 r2
 | none =>
  obtain ⟨rfl,rfl⟩:=row_none hrow
  obtain rfl:=hnil rfl
  refine wpList_append_own_none hg s x t hop base 5 i 1 h1 h2 v n xs hs hown hx ?_
  exact hK v w (by simpa using hown) (World.grownBy.refl _ _)
open Go.RowKit
structure GP where
 parts:List PT
 ser:Int
 tm:Int
 rs:Int
instance:Inhabited GP:=⟨⟨[],0,0,0⟩⟩
def gov (a:Option Addr)(n c:Nat)(x:GP):Value:=.agg #[.slice a n c,.int .i64 x.ser,.int .i64 x.tm,.int .i64 x.rs]
structure Cells4 (w:World)(b o:Nat)(a:Option Addr)(n c:Nat)(x:GP):Prop where
 c0:w.cell? ⟨b,o,none⟩=some (.slice a n c)
 c1:w.cell? ⟨b,o+1,none⟩=some (.int .i64 x.ser)
 c2:w.cell? ⟨b,o+2,none⟩=some (.int .i64 x.tm)
 c3:w.cell? ⟨b,o+3,none⟩=some (.int .i64 x.rs)
theorem Cells4.of {w w':World}{b o:Nat}{a:Option Addr}{n c:Nat}{x:GP}(h:Cells4 w b o a n c x)(hc:∀ i,w'.cell? ⟨b,i,none⟩=w.cell? ⟨b,i,none⟩):Cells4 w' b o a n c x :=
 ⟨(hc _).trans h.c0,(hc _).trans h.c1,(hc _).trans h.c2,(hc _).trans h.c3⟩
structure Gns (w:World)(a:Option Addr)(n:Nat)(xs:List GP):Prop where
 len:xs.length=n
 max:n≤9223372036854775807
 get:∀ k,k<n→∃ b off an nn cn,a=some ⟨b,off,none⟩∧b<w.heap.size∧Cells4 w b (off+k * 4) an nn cn (xs.getD k default)∧Pts w an nn (xs.getD k default).parts
theorem Gns.kept {w w':World}{a:Option Addr}{n:Nat}{xs:List GP}(h:Gns w a n xs)(hb:Below w.heap.size w w'):Gns w' a n xs:=by
 refine ⟨h.len,h.max,fun k hk=>?_⟩
 obtain ⟨b,off,an,nn,cn,ha,hlt,hc,hp⟩:=h.get k hk
 exact ⟨b,off,an,nn,cn,ha,Nat.lt_of_lt_of_le hlt hb.size,hc.of (fun i=>hb.cell (p:=⟨b,i,none⟩) hlt),hp.kept hb⟩
def GpOk (x:GP):Prop:=x.parts.length≤1048576∧∀ k,k<x.parts.length→(x.parts.getD k default).val.size≤1048576
theorem szGone_any (a:Option Addr)(n c:Nat)(x:GP)(lf:Int)(w:World)(h:Pts w a n x.parts)(h0:0≤lf)(h1:lf≤1048576) :
  Calls Tryz.prog 26 #[gov a n c x,.int .i64 lf] w fun e w'=>∃ r,e=.returned (.int .i64 r)∧(r<0∨(0≤r∧r≤1048576∧GpOk x))∧Below w.heap.size w w':=by
 unfold gov
 have H0:Hid (Pts w a n x.parts):=h
 have HN:Hid (x.parts.length=n):=h.len
 clear h
 have hbl:Below w.heap.size w (w.alloc (.cells #[.slice a n c,.int .i64 x.ser,.int .i64 x.tm,.int .i64 x.rs] 60)):=(Below.refl _ _).alloc (Nat.le_refl _) _
 go_enter Tryz.func26,Tryz.ntmps26
 go_wp2_with fail
 refine (szName_any a n c x.parts lf _ (H0.out.kept hbl) h0 h1).mono ?_
 rintro e w1 ⟨r,rfl,hr,hb1⟩
 have B1:Below w.heap.size w w1:=hbl.trans (hb1.mono hbl.size)
 have HR:Hid (_):=hr
 by_cases hneg:r<0
 ·clear hr
  go_wp2
  go_ret
  exact ⟨_,rfl,.inl (by decide),B1⟩
 ·have hr2:0≤r∧r≤1048576:=by omega
  clear hr
  go_wp2
  go_ret
  refine ⟨_,rfl,.inr ⟨hr2.1,hr2.2,?_⟩,B1⟩
  have hn:=HN.out
  rcases HR.out with h | ⟨_,_,h3,h4⟩
  ·omega
  ·exact ⟨by rw [hn]; exact h3,fun k hk=>h4 k (by rw [← hn]; exact hk)⟩
theorem szGoneS_any (a:Option Addr)(n cap:Nat)(xs:List GP)(lf:Int)(w:World)(h:Gns w a n xs)(hl0:0≤lf)(hl1:lf≤1048576) :
  Calls Tryz.prog 11 #[.slice a n cap,.int .i64 lf] w fun e w'=>∃ r,e=.returned (.int .i64 r)∧(r<0∨(0≤r∧r≤1048576∧n≤1048576∧∀ k,k<n→GpOk (xs.getD k default)))∧Below w.heap.size w w':=by
 have H0:Hid (Gns w a n xs):=h
 have hn:=h.max
 clear h
 by_cases hlt:(n:Int)≤lf
 ·go_enter Tryz.func11,Tryz.ntmps11
  go_wp2
  go_loopw [1,5] (fun l i wr=>∃ (k:Nat) (left:Int),k≤n∧i=.int .i64 k∧l=.int .i64 left∧0≤left∧left≤1048576∧Hid (∀ j,j<k→GpOk (xs.getD j default))∧Below w.heap.size w wr) (fun _ i _=>n - (intOf i).toNat)
  case atStart=>exact ⟨0,lf - n,Nat.zero_le _,rfl,rfl,by omega,by omega,fun j hj=>absurd hj (Nat.not_lt_zero _),Below.refl _ _⟩
  case round =>
   obtain ⟨k,left,hk,rfl,rfl,h0,h1,HA,hbr⟩:=hrel
   by_cases hkn:k<n
   ·obtain ⟨b,off,an,nn,cn,rfl,hlb,hc,hp⟩:=H0.out.get k hkn
    obtain ⟨y,hy⟩:∃ y,y=xs.getD k default:=⟨_,rfl⟩
    rw [← hy] at hc hp
    have HY:Hid (y=xs.getD k default):=hy
    obtain ⟨c0,c1,c2,c3⟩:=hc.of (w':=wr) (fun i=>hbr.cell (p:=⟨b,i,none⟩) hlb)
    have HP:Hid (Pts wr an nn y.parts):=hp.kept hbr
    have hkni:(k:Int)<(n:Int):=by omega
    clear hc hy hp
    go_wp2_with fail
    refine (szGone_any an nn cn y left _ HP.out h0 h1).mono ?_
    rintro e w2 ⟨r,rfl,hr,hb2⟩
    have hb2':Below w.heap.size w w2:=hbr.trans (hb2.mono hbr.size)
    by_cases hneg:r<0
    ·clear hr
     go_wp2
     go_ret
     exact ⟨_,rfl,.inl (by decide),hb2'⟩
    ·have hr1:0≤r:=by omega
     have hr2:r≤1048576:=by omega
     have HR:Hid (GpOk y):=by rcases hr with h | h; exact absurd h hneg; exact h.2.2
     clear hr
     go_wp2
     go_roundw
     case rel =>
      refine ⟨k+1,r,by omega,by go_num,rfl,hr1,hr2,fun j hj=>?_,hb2'⟩
      by_cases hjk:j=k
      ·subst hjk; rw [← HY.out]; exact HR.out
      ·exact HA.out j (by omega)
     case measure=>simp [intOf]; omega
   ·obtain rfl:n=k:=by omega
    go_wp2
    go_ret
    exact ⟨_,rfl,.inr ⟨h0,h1,by omega,HA.out⟩,hbr⟩
 ·go_enter Tryz.func11,Tryz.ntmps11
  go_wp2
  go_ret
  exact ⟨_,rfl,.inl (by decide),Below.refl _ _⟩
theorem eqGone_same (a b:Option Addr)(n ca cb:Nat)(x:GP)(w:World)(h:Pts w a n x.parts)(h2:Pts w b n x.parts) :
  Calls Tryz.prog 59 #[gov a n ca x,gov b n cb x] w fun e w'=>e=.returned (.bool true)∧Below w.heap.size w w':=by
 have H1:Hid (Pts w a n x.parts):=h
 have H2:Hid (Pts w b n x.parts):=h2
 clear h h2
 unfold gov
 have hbl:Below w.heap.size w ((w.alloc (.cells #[.slice a n ca,.int .i64 x.ser,.int .i64 x.tm,.int .i64 x.rs] 65)).alloc (.cells #[.slice b n cb,.int .i64 x.ser,.int .i64 x.tm,.int .i64 x.rs] 65)):=((Below.refl _ _).alloc (Nat.le_refl _) _).alloc (by simp) _
 have t1:(x.ser != x.ser)=false:=by simp
 have t3:(x.tm != x.tm)=false:=by simp
 have t4:(x.rs != x.rs)=false:=by simp
 obtain ⟨W0,hW0⟩:∃ W0,W0=((w.alloc (.cells #[.slice a n ca,.int .i64 x.ser,.int .i64 x.tm,.int .i64 x.rs] 65)).alloc (.cells #[.slice b n cb,.int .i64 x.ser,.int .i64 x.tm,.int .i64 x.rs] 65)):=⟨_,rfl⟩
 have b0:=two_blocks w (.cells #[.slice a n ca,.int .i64 x.ser,.int .i64 x.tm,.int .i64 x.rs] 65) (.cells #[.slice b n cb,.int .i64 x.ser,.int .i64 x.tm,.int .i64 x.rs] 65)
 rw [← hW0] at hbl b0
 go_enter Tryz.func59,Tryz.ntmps59
 go_wp2_with fail
 rw [← hW0]
 clear hW0
 refine (eqName_same a b n ca cb x.parts _ (H1.out.kept hbl) (H2.out.kept hbl)).mono ?_
 rintro e w2 ⟨rfl,hb2⟩
 have l0:=(Array.getElem?_eq_some_iff.1 b0.2).1
 have y0:=(hb2.block _ (by omega)).trans b0.1
 have y1:=(hb2.block _ l0).trans b0.2
 have c1:w2.cell? ⟨w.heap.size,1,none⟩=some (.int .i64 x.ser):=(cell_of_row _ _ 1 _ 65 (0,0) y0).trans rfl
 have c2:w2.cell? ⟨w.heap.size,2,none⟩=some (.int .i64 x.tm):=(cell_of_row _ _ 2 _ 65 (0,0) y0).trans rfl
 have c3:w2.cell? ⟨w.heap.size,3,none⟩=some (.int .i64 x.rs):=(cell_of_row _ _ 3 _ 65 (0,0) y0).trans rfl
 have d1:w2.cell? ⟨w.heap.size+1,1,none⟩=some (.int .i64 x.ser):=(cell_of_row _ _ 1 _ 65 (0,0) y1).trans rfl
 have d2:w2.cell? ⟨w.heap.size+1,2,none⟩=some (.int .i64 x.tm):=(cell_of_row _ _ 2 _ 65 (0,0) y1).trans rfl
 have d3:w2.cell? ⟨w.heap.size+1,3,none⟩=some (.int .i64 x.rs):=(cell_of_row _ _ 3 _ 65 (0,0) y1).trans rfl
 have HF:Hid (Below w.heap.size w w2):=hbl.trans (hb2.mono hbl.size)
 clear hb2 y0 y1 b0 hbl
 go_wp2
 go_ret
 exact ⟨rfl,HF.out⟩
open Go.RowKit
theorem results_go {fn:Func}{t:Tmp}(h:fn.results=#[.cell t 65])(tmps:Array Value)(g:Nat)(ht:tmps.getD t undef=.pointer (some ⟨g,0,none⟩))(w:World)(c0 c1 c2 c3:Value)
  (hb:w.heap[g]? = some (.cells #[c0,c1,c2,c3] 65 (0,0))):(results fn tmps).run Tryz.prog w=.ok (.agg #[c0,c1,c2,c3]) w:=by
 have d0:w.cell? ⟨g,0,none⟩=some c0:=(cell_of_row _ g 0 _ 65 (0,0) hb).trans rfl
 have d1:w.cell? ⟨g,1,none⟩=some c1:=(cell_of_row _ g 1 _ 65 (0,0) hb).trans rfl
 have d2:w.cell? ⟨g,2,none⟩=some c2:=(cell_of_row _ g 2 _ 65 (0,0) hb).trans rfl
 have d3:w.cell? ⟨g,3,none⟩=some c3:=(cell_of_row _ g 3 _ 65 (0,0) hb).trans rfl
 clear hb
 have ht':tmps[t]?.getD undef=.pointer (some ⟨g,0,none⟩):=by rw [← ht]; simp
 simp [results,h,go_sem,ht',d0,d1,d2,d3]
def put4 (w:World)(g o:Nat)(v0 v1 v2 v3:Value):World:=(((w.setCell ⟨g,o,none⟩ v0).setCell ⟨g,o+1,none⟩ v1).setCell ⟨g,o+2,none⟩ v2).setCell ⟨g,o+3,none⟩ v3
theorem put4_other (w:World)(g o l:Nat)(h:l≠g)(v0 v1 v2 v3:Value):(put4 w g o v0 v1 v2 v3).heap[l]? = w.heap[l]? :=
 (Below.heap_setCell _ _ _ _ (by show l≠g; exact h)).trans ((Below.heap_setCell _ _ _ _ (by show l≠g; exact h)).trans ((Below.heap_setCell _ _ _ _ (by show l≠g; exact h)).trans (Below.heap_setCell _ _ _ _ (by show l≠g; exact h))))
theorem put4_size (w:World)(g o:Nat)(v0 v1 v2 v3:Value):(put4 w g o v0 v1 v2 v3).heap.size=w.heap.size:=by simp [put4]
theorem put4_row {w:World}{g t:Nat}{c0 c1 c2 c3:Value}(h:w.heap[g]? = some (.cells #[c0,c1,c2,c3] t (0,0)))(v0 v1 v2 v3:Value):(put4 w g 0 v0 v1 v2 v3).heap[g]? = some (.cells #[v0,v1,v2,v3] t (0,0)):=by
 have q1:=heap_setCell_same w g 0 _ t v0 h
 have q2:=heap_setCell_same _ g 1 _ t v1 q1
 have q3:=heap_setCell_same _ g 2 _ t v2 q2
 exact heap_setCell_same _ g 3 _ t v3 q3
structure TG (w W:World)(a:Option Addr)(n c:Nat)(x:GP)(g1:Nat)(v0 v1 v2 v3:Value):Prop where
 b0:W.heap[w.heap.size]? = some (.cells #[.slice a n c,.int .i64 x.ser,.int .i64 x.tm,.int .i64 x.rs] 60 (0,0))
 b1:W.heap[w.heap.size+1]? = some (.cells #[.slice none 0 0,.int .i64 0,.int .i64 0,.int .i64 0] 65 (0,0))
 b2:W.heap[w.heap.size+1+1]? = some (.cells #[v0,v1,v2,v3] 65 (0,0))
 pts:Pts W (some ⟨g1,0,none⟩) n x.parts
 below:Below w.heap.size w W
 g3:w.heap.size+3≤g1
 lt:w.heap.size+3≤W.heap.size
theorem TG.set {w W:World}{a:Option Addr}{n c:Nat}{x:GP}{g1:Nat}{v0 v1 v2 v3 u0 u1 u2 u3:Value}(h:TG w W a n c x g1 v0 v1 v2 v3)(j:Nat)(u:Value)(e:(#[v0,v1,v2,v3]:Array Value).setIfInBounds j u=#[u0,u1,u2,u3]):TG w (W.setCell ⟨w.heap.size+1+1,j,none⟩ u) a n c x g1 u0 u1 u2 u3:=by
 have hg:=h.g3
 have f:∀ l,l≠w.heap.size+2→(W.setCell ⟨w.heap.size+1+1,j,none⟩ u).heap[l]? = W.heap[l]?:=fun l hl=>Below.heap_setCell _ _ _ _ (by show l≠w.heap.size+1+1; omega)
 refine ⟨(f _ (by omega)).trans h.b0,(f _ (by omega)).trans h.b1,?_,h.pts.same (f _ (by omega)) (by simp),⟨h.below.os,h.below.tape,h.below.output,by simpa [World.setCell] using h.below.size,fun l hl=>(f l (by omega)).trans (h.below.block l hl)⟩,hg,by simpa [World.setCell] using h.lt⟩
 rw [← e]
 exact heap_setCell_same W (w.heap.size+1+1) j _ 65 u h.b2
theorem TG.out {w W:World}{a:Option Addr}{n c:Nat}{x:GP}{g1:Nat}{v0 v1 v2 v3:Value}(h:TG w W a n c x g1 v0 v1 v2 v3)(j:Nat):W.cell? ⟨w.heap.size+1+1,j,none⟩=(#[v0,v1,v2,v3]:Array Value)[j]?∧W.frozen? ⟨w.heap.size+1+1,j,none⟩=false∧W.cell? ⟨w.heap.size,j,none⟩=(#[.slice a n c,.int .i64 x.ser,.int .i64 x.tm,.int .i64 x.rs]:Array Value)[j]? :=
 ⟨cell_of_row _ _ j _ 65 (0,0) h.b2,frozen_of_row W _ j _ 65 h.b2,cell_of_row _ _ j _ 60 (0,0) h.b0⟩
theorem TG.all {w W:World}{a:Option Addr}{n c:Nat}{x:GP}{g1:Nat}{v0 v1 v2 v3:Value}(h:TG w W a n c x g1 v0 v1 v2 v3):(W.cell? ⟨w.heap.size+1+1,0,none⟩=some v0∧W.cell? ⟨w.heap.size+1+1,1,none⟩=some v1∧W.cell? ⟨w.heap.size+1+1,2,none⟩=some v2∧W.cell? ⟨w.heap.size+1+1,3,none⟩=some v3)∧(W.cell? ⟨w.heap.size+1,0,none⟩=some (.slice none 0 0)∧W.cell? ⟨w.heap.size+1,1,none⟩=some (.int .i64 0)∧W.cell? ⟨w.heap.size+1,2,none⟩=some (.int .i64 0)∧W.cell? ⟨w.heap.size+1,3,none⟩=some (.int .i64 0))∧W.frozen? ⟨w.heap.size+1,0,none⟩=false∧W.frozen? ⟨w.heap.size+1,1,none⟩=false∧W.frozen? ⟨w.heap.size+1,2,none⟩=false∧W.frozen? ⟨w.heap.size+1,3,none⟩=false :=
 ⟨⟨(h.out 0).1,(h.out 1).1,(h.out 2).1,(h.out 3).1⟩,⟨(cell_of_row _ _ 0 _ 65 (0,0) h.b1).trans rfl,(cell_of_row _ _ 1 _ 65 (0,0) h.b1).trans rfl,(cell_of_row _ _ 2 _ 65 (0,0) h.b1).trans rfl,(cell_of_row _ _ 3 _ 65 (0,0) h.b1).trans rfl⟩,frozen_of_row W _ 0 _ 65 h.b1,frozen_of_row W _ 1 _ 65 h.b1,frozen_of_row W _ 2 _ 65 h.b1,frozen_of_row W _ 3 _ 65 h.b1⟩
theorem toGone_at (a:Option Addr)(n c:Nat)(x:GP)(w:World)(h:Pts w a n x.parts)(hn:n≤1048576) :
  Calls Tryz.prog 44 #[gov a n c x] w fun e w'=>∃ g',e=.returned (gov (some ⟨g',0,none⟩) n n x)∧w.heap.size≤g'∧Pts w' (some ⟨g',0,none⟩) n x.parts∧Below w.heap.size w w':=by
 have HK:Hid (Pts w a n x.parts):=h
 clear h
 unfold gov
 obtain ⟨W0,hW0⟩:∃ W0,W0=(((w.alloc (.cells #[.slice a n c,.int .i64 x.ser,.int .i64 x.tm,.int .i64 x.rs] 60)).alloc (.cells #[.slice none 0 0,.int .i64 0,.int .i64 0,.int .i64 0] 65)).alloc (.cells #[.slice none 0 0,.int .i64 0,.int .i64 0,.int .i64 0] 65)):=⟨_,rfl⟩
 have hB0:Below w.heap.size w W0:=by rw [hW0]; exact three_below _ _ _ _
 have hS0:W0.heap.size=w.heap.size+3:=by rw [hW0]; simp
 obtain ⟨b0,b1,b2⟩:=three_blocks' w (.cells #[.slice a n c,.int .i64 x.ser,.int .i64 x.tm,.int .i64 x.rs] 60) (.cells #[.slice none 0 0,.int .i64 0,.int .i64 0,.int .i64 0] 65) (.cells #[.slice none 0 0,.int .i64 0,.int .i64 0,.int .i64 0] 65)
 rw [← hW0] at b0 b1 b2
 go_enter Tryz.func44,Tryz.ntmps44
 go_wp2_with fail
 rw [← hW0]
 clear hW0
 refine (toName_at a n c x.parts _ (HK.out.kept hB0) hn).mono ?_
 rintro e w1 ⟨g1,rfl,hg1,ho1,hb1⟩
 have hs1:=hb1.size
 have T1:Hid (TG w w1 a n c x g1 (.slice none 0 0) (.int .i64 0) (.int .i64 0) (.int .i64 0)):=⟨heap_kept' hb1 (by omega) b0,heap_kept' hb1 (by omega) b1,heap_kept' hb1 (by omega) b2,ho1,hB0.trans (hb1.mono (by omega)),by omega,by omega⟩
 clear b0 b1 b2 ho1 hb1 hB0 hg1 hs1 hS0 HK
 unfold nmv
 obtain ⟨o0,f0,a0⟩:=T1.out.out 0
 have o0:w1.cell? ⟨w.heap.size+1+1,0,none⟩=some (.slice none 0 0):=o0
 have a0:w1.cell? ⟨w.heap.size,0,none⟩=some (.slice a n c):=a0
 have hl0:=T1.out.lt
 obtain ⟨w2,hw2⟩:∃ w2,w2=w1.setCell ⟨w.heap.size+1+1,0,none⟩ (.slice (some ⟨g1,0,none⟩) n n):=⟨_,rfl⟩
 have T2:Hid (TG w w2 a n c x g1 (.slice (some ⟨g1,0,none⟩) n n) (.int .i64 0) (.int .i64 0) (.int .i64 0)):=by rw [hw2]; exact T1.out.set 0 _ rfl
 have HW2:Hid (_=_):=hw2
 clear hw2
 go_upto_region 3 with fail
 rw [← HW2.out]
 clear HW2 o0 f0 a0 hl0 T1
 obtain ⟨o1,f1,a1⟩:=T2.out.out 1
 have o1:w2.cell? ⟨w.heap.size+1+1,1,none⟩=some (.int .i64 0):=o1
 have a1:w2.cell? ⟨w.heap.size,1,none⟩=some (.int .i64 x.ser):=a1
 have hl1:=T2.out.lt
 obtain ⟨w3,hw3⟩:∃ w3,w3=w2.setCell ⟨w.heap.size+1+1,1,none⟩ (.int .i64 x.ser):=⟨_,rfl⟩
 have T3:Hid (TG w w3 a n c x g1 (.slice (some ⟨g1,0,none⟩) n n) (.int .i64 x.ser) (.int .i64 0) (.int .i64 0)):=by rw [hw3]; exact T2.out.set 1 _ rfl
 have HW3:Hid (_=_):=hw3
 clear hw3
 go_upto_region 4 with fail
 rw [← HW3.out]
 clear HW3 o1 f1 a1 hl1 T2
 obtain ⟨o2,f2,a2⟩:=T3.out.out 2
 have o2:w3.cell? ⟨w.heap.size+1+1,2,none⟩=some (.int .i64 0):=o2
 have a2:w3.cell? ⟨w.heap.size,2,none⟩=some (.int .i64 x.tm):=a2
 have hl2:=T3.out.lt
 obtain ⟨w4,hw4⟩:∃ w4,w4=w3.setCell ⟨w.heap.size+1+1,2,none⟩ (.int .i64 x.tm):=⟨_,rfl⟩
 have T4:Hid (TG w w4 a n c x g1 (.slice (some ⟨g1,0,none⟩) n n) (.int .i64 x.ser) (.int .i64 x.tm) (.int .i64 0)):=by rw [hw4]; exact T3.out.set 2 _ rfl
 have HW4:Hid (_=_):=hw4
 clear hw4
 go_upto_region 5 with fail
 rw [← HW4.out]
 clear HW4 o2 f2 a2 hl2 T3
 obtain ⟨o3,f3,a3⟩:=T4.out.out 3
 have o3:w4.cell? ⟨w.heap.size+1+1,3,none⟩=some (.int .i64 0):=o3
 have a3:w4.cell? ⟨w.heap.size,3,none⟩=some (.int .i64 x.rs):=a3
 have hl3:=T4.out.lt
 obtain ⟨w5,hw5⟩:∃ w5,w5=w4.setCell ⟨w.heap.size+1+1,3,none⟩ (.int .i64 x.rs):=⟨_,rfl⟩
 have T5:Hid (TG w w5 a n c x g1 (.slice (some ⟨g1,0,none⟩) n n) (.int .i64 x.ser) (.int .i64 x.tm) (.int .i64 x.rs)):=by rw [hw5]; exact T4.out.set 3 _ rfl
 have HW5:Hid (_=_):=hw5
 clear hw5
 go_upto_region 6 with fail
 rw [← HW5.out]
 clear HW5 o3 f3 a3 hl3 T4
 obtain ⟨⟨o0,o1,o2,o3⟩,⟨r0,r1,r2,r3⟩,f0,f1,f2,f3⟩:=T5.out.all
 have hl5:=T5.out.lt
 go_wp2
 try simp only [Exit.inBlock,Exit.then]
 have hgg:=T5.out.g3
 have q1:=put4_row T5.out.b1 (.slice (some ⟨g1,0,none⟩) n n) (.int .i64 x.ser) (.int .i64 x.tm) (.int .i64 x.rs)
 refine bodyPost_ret (results_go rfl _ (w.heap.size+1) rfl _ _ _ _ _ q1) rfl ⟨_,rfl,by omega,T5.out.pts.same (put4_other _ _ _ _ (by omega) _ _ _ _) (by simp),?_⟩
 exact ⟨T5.out.below.os,T5.out.below.tape,T5.out.below.output,by simpa [World.setCell] using T5.out.below.size,fun l hl=>(put4_other _ _ _ _ (by omega) _ _ _ _).trans (T5.out.below.block l hl)⟩
open Go.RowKit
theorem Tryz.infoGone:(Tryz.prog.info? 65).map (fun i=>(i.zero,i.size,i.bytes))=some (some (.agg #[.slice none 0 0,.int .i64 0,.int .i64 0,.int .i64 0]),4,48):=by kernel_rfl
def GoPre (w:World)(g k:Nat)(xs:List GP):Prop:=∀ j,j<k→∃ gn nn,g<gn∧Cells4 w g (j * 4) (some ⟨gn,0,none⟩) nn nn (xs.getD j default)∧Pts w (some ⟨gn,0,none⟩) nn (xs.getD j default).parts
theorem GoPre.kept {w w':World}{g k:Nat}{xs:List GP}(h:GoPre w g k xs)(hg:g<w.heap.size)(hb:Below w.heap.size w w'):GoPre w' g k xs:=fun j hj=>by
 obtain ⟨gn,nn,h1,h3,h4⟩:=h j hj
 exact ⟨gn,nn,h1,h3.of (fun i=>hb.cell (p:=⟨g,i,none⟩) hg),h4.kept hb⟩
structure Put4 (B:Nat)(w w':World)(g n cap i:Nat)(an:Option Addr)(nn cn:Nat)(x:GP):Prop where
 own:∃ vs,w'.ownsRow B 65 4 (.slice (some ⟨g,0,none⟩) n cap) n vs
 other:∀ l,l≠g→w'.heap[l]? = w.heap[l]?
 size:w'.heap.size=w.heap.size
 old:∀ j,j<n * 4→j<i * 4∨i * 4+4≤j→w'.cell? ⟨g,j,none⟩=w.cell? ⟨g,j,none⟩
 cells:Cells4 w' g (i * 4) an nn cn x
theorem put4_is {B:Nat}{w:World}{g n cap:Nat}{vs:List Value}(h:w.ownsRow B 65 4 (.slice (some ⟨g,0,none⟩) n cap) n vs)(i:Nat)(hi:i<n)(an:Option Addr)(nn cn:Nat)(x:GP):Put4 B w (put4 w g (i * 4) (.slice an nn cn) (.int .i64 x.ser) (.int .i64 x.tm) (.int .i64 x.rs)) g n cap i an nn cn x:=by
 have h1:=((((h.stored (i * 4) (.slice an nn cn)).1.stored (i * 4+1) (.int .i64 x.ser)).1.stored (i * 4+2) (.int .i64 x.tm)).1.stored (i * 4+3) (.int .i64 x.rs)).1
 have hl:vs.length=n * 4:=h.1
 have cc:=fun j (hj:j<n * 4)=>h1.cellAt j hj
 refine ⟨⟨_,h1⟩,fun l hl=>put4_other _ _ _ _ hl _ _ _ _,put4_size _ _ _ _ _ _ _,fun j hj ho=>?_,⟨?_,?_,?_,?_⟩⟩
 ·refine (cc j hj).trans ?_
  rw [h.cellAt j hj]
  rw [List.getElem?_set_ne (by omega),List.getElem?_set_ne (by omega),List.getElem?_set_ne (by omega),List.getElem?_set_ne (by omega)]
 ·refine (cc _ (by omega)).trans ?_
  rw [List.getElem?_set_ne (by omega),List.getElem?_set_ne (by omega),List.getElem?_set_ne (by omega),List.getElem?_set_self (by omega)]
 ·refine (cc _ (by omega)).trans ?_
  rw [List.getElem?_set_ne (by omega),List.getElem?_set_ne (by omega),List.getElem?_set_self (by simp; omega)]
 ·refine (cc _ (by omega)).trans ?_
  rw [List.getElem?_set_ne (by omega),List.getElem?_set_self (by simp; omega)]
 ·refine (cc _ (by omega)).trans ?_
  rw [List.getElem?_set_self (by simp; omega)]
theorem toGoneS_at (a:Option Addr)(n cap:Nat)(xs:List GP)(w:World)(h:Gns w a n xs)(hn:n≤1048576)(hz:∀ k,k<n→GpOk (xs.getD k default)) :
  Calls Tryz.prog 17 #[.slice a n cap] w fun e w'=>e=.returned (.slice (some ⟨w.heap.size,0,none⟩) n n)∧GoPre w' w.heap.size n xs∧w.heap.size<w'.heap.size∧Below w.heap.size w w':=by
 obtain ⟨i0,hi,hz0,hz1,hz2⟩:=info_parts Tryz.infoGone
 have HK:Hid (Gns w a n xs):=h
 have HZ:Hid (∀ k,k<n→GpOk (xs.getD k default)):=hz
 have hlen:Hid (xs.length=n):=h.len
 clear h hz
 go_enter Tryz.func17,Tryz.ntmps17
 go_wp2_with (first | (at_make; refine wpList_make_full _ rfl _ _ 37 rfl w.heap.size 65 i0 _ 4 Tryz.underlying37 hi hz0 hz1 _ _ _ _ n rfl rfl rfl rfl (by rw [hz2]; omega) (by unfold maxLen; omega) (by exact Nat.le_refl _) ?_; intro w1 hown hgrow))
 have hbl:Below w.heap.size w w1:=(Below.refl _ _).grown hgrow (Nat.le_refl _) (by simp)
 clear hgrow hi hz0 hz1 hz2
 go_loopw [4] (fun i wr=>∃ k:Nat,k≤n∧i=.int .i64 k∧Hid (∃ vs,wr.ownsRow w.heap.size 65 4 (.slice (some ⟨w.heap.size,0,none⟩) n n) n vs)∧Hid (GoPre wr w.heap.size k xs)∧Below w.heap.size w wr) (fun i _=>n - (intOf i).toNat)
 case atStart=>exact ⟨0,Nat.zero_le _,rfl,⟨_,hown⟩,fun j hj=>absurd hj (Nat.not_lt_zero _),hbl⟩
 case round =>
  obtain ⟨k,hk,rfl,HOR,HPRE,hbr⟩:=hrel
  obtain ⟨vs,hor⟩:=HOR.out
  have hgl:=(hor.lt _ rfl).2
  have HOV:Hid (_):=hor
  clear HOR hor hown hbl
  by_cases hkn:k<n
  ·obtain ⟨b,off,an,nn,cn,rfl,hlb,hc,hp⟩:=HK.out.get k hkn
   have hgp:=HZ.out k hkn
   obtain ⟨y,hy⟩:∃ y,y=xs.getD k default:=⟨_,rfl⟩
   rw [← hy] at hc hp hgp
   have HY:Hid (y=xs.getD k default):=hy
   have hnn:nn≤1048576:=by rw [← hp.len]; exact hgp.1
   obtain ⟨c0,c1,c2,c3⟩:=hc.of (w':=wr) (fun i=>hbr.cell (p:=⟨b,i,none⟩) hlb)
   have HP:Hid (Pts wr an nn y.parts):=hp.kept hbr
   have hkni:(k:Int)<(n:Int):=by omega
   have hs:=hbr.size
   clear hc hy hp hgp
   go_wp2_with fail
   refine (toGone_at an nn cn y _ HP.out hnn).mono ?_
   rintro e w2 ⟨g2,rfl,hg2,hp2,hb2⟩
   have hor2:w2.ownsRow w.heap.size 65 4 (.slice (some ⟨w.heap.size,0,none⟩) n n) n vs:=ownsRow_below HOV.out hb2
   have hs2:=hb2.size
   have fr:∀ j,w2.frozen? ⟨w.heap.size,j,none⟩=false:=fun j=>hor2.frozenAt j
   have hvl:vs.length=n * 4:=hor2.1
   have cx:∀ j,j<n * 4→∃ z,w2.cell? ⟨w.heap.size,j,none⟩=some z:=fun j hj=>⟨_,(hor2.cellAt j hj).trans (List.getElem?_eq_getElem (by omega))⟩
   obtain ⟨z0,x0⟩:=cx (k * 4) (by omega)
   obtain ⟨z1,x1⟩:=cx (k * 4+1) (by omega)
   obtain ⟨z2,x2⟩:=cx (k * 4+2) (by omega)
   obtain ⟨z3,x3⟩:=cx (k * 4+3) (by omega)
   have f0:=fr (k * 4)
   have f1:=fr (k * 4+1)
   have f2:=fr (k * 4+2)
   have f3:=fr (k * 4+3)
   have hS:=put4_is hor2 k hkn (some ⟨g2,0,none⟩) nn nn y
   have hP:GoPre (put4 w2 w.heap.size (k * 4) (.slice (some ⟨g2,0,none⟩) nn nn) (.int .i64 y.ser) (.int .i64 y.tm) (.int .i64 y.rs)) w.heap.size (k+1) xs:=by
    intro j hj
    by_cases hjk:j=k
    ·subst hjk
     rw [← HY.out]
     exact ⟨g2,nn,by omega,hS.cells,hp2.same (hS.other _ (by omega)) (Nat.le_of_eq hS.size.symm)⟩
    ·obtain ⟨gn,mm,q1,q2,q3⟩:=(HPRE.out.kept hgl hb2) j (by omega)
     have hx:=hS.old
     exact ⟨gn,mm,q1,⟨(hx _ (by omega) (by omega)).trans q2.c0,(hx _ (by omega) (by omega)).trans q2.c1,(hx _ (by omega) (by omega)).trans q2.c2,(hx _ (by omega) (by omega)).trans q2.c3⟩,q3.same (hS.other _ (by omega)) (Nat.le_of_eq hS.size.symm)⟩
   have hB2:=hbr.trans (hb2.mono hs)
   have hB4:Below w.heap.size w (put4 w2 w.heap.size (k * 4) (.slice (some ⟨g2,0,none⟩) nn nn) (.int .i64 y.ser) (.int .i64 y.tm) (.int .i64 y.rs)):=⟨hB2.os,hB2.tape,hB2.output,by rw [hS.size]; exact hB2.size,fun l hl=>(hS.other l (by omega)).trans (hB2.block l hl)⟩
   have FIN:Hid (_∧_∧_):=⟨hS.own,hP,hB4⟩
   have hgl2:w.heap.size<w2.heap.size:=by omega
   clear fr cx hS hP hB4 hB2 hor2 hp2 hb2 hvl HPRE HOV HP HK
   unfold gov
   go_wp2
   go_roundw
   case rel=>exact ⟨k+1,by omega,by go_num,FIN.out.1,FIN.out.2.1,FIN.out.2.2⟩
   case measure=>simp [intOf]; omega
  ·obtain rfl:n=k:=by omega
   clear HOV
   go_wp2
   go_ret
   exact ⟨rfl,HPRE.out,hgl,hbr⟩
theorem GoPre.gns {w:World}{g n:Nat}{xs:List GP}(h:GoPre w g n xs)(hl:xs.length=n)(hn:n≤9223372036854775807)(hg:g<w.heap.size):Gns w (some ⟨g,0,none⟩) n xs:=by
 refine ⟨hl,hn,fun k hk=>?_⟩
 obtain ⟨gn,nn,h1,h3,h4⟩:=h k hk
 exact ⟨g,0,_,_,_,rfl,hg,by rw [Nat.zero_add]; exact h3,h4⟩
end Go.Proofs.YtkdandggklpppaaGreatDoor
