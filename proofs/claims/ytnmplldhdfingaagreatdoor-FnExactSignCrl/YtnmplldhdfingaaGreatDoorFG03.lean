import Derived.Deep.RegionLaw
import Derived.Laws.BytesArg
import Derived.Laws.AppendOwnNone
import Derived.Laws.CopyOwn
import Derived.Test.YtnmplldhdfingaaGreatDoorChecked
import Derived.Laws.Rows
import Derived.Handed
import Derived.HandedShaped
import Derived.Test.YtnmplldhdfingaaGreatDoorFG01
set_option maxRecDepth 10000
set_option maxHeartbeats 8000000
set_option linter.unusedVariables false
namespace Go.Proofs.YtnmplldhdfingaaGreatDoor
open Go.RowKit
theorem convert_own {B:Nat}{w:World}{a:Option Addr}{n cap:Nat}{bs:List Int}(h:Own B w a n cap bs):(convert 26 9 (.slice a n cap)).run Tryz.prog w=.ok (.string (strOfNums bs)) w:=by
 have hr:=h.toRow
 rcases h.row.2 with ⟨hv,h0⟩ | ⟨g,cap',cur,hv,_⟩
 ·simp only [Value.slice.injEq] at hv
  obtain ⟨rfl,_,rfl⟩:=hv
  have hb:bs = []:=List.eq_nil_of_length_eq_zero (by rw [hr.len]; exact h0)
  subst hb
  exact run_convert_bytes_nil w 26 5 Tryz.underlying26 Tryz.underlying5 _ _ 9 Tryz.underlying9
 ·simp only [Value.slice.injEq] at hv
  obtain ⟨rfl,_,rfl⟩:=hv
  refine run_convert_bytes_arg w 26 5 Tryz.underlying26 Tryz.underlying5 g 0 n cap bs hr.len (fun i hi=>?_) 9 Tryz.underlying9
  obtain ⟨b,off,ha,_,hc⟩:=hr.get i hi
  simp at ha
  obtain ⟨rfl,rfl⟩:=ha
  exact hc
open Go.RowKit
def cAt (s:ByteArray)(j:Nat):Int:=((s.data.toList.getD j 0).toNat:Int)
theorem cAt_get (s:ByteArray)(j:Nat)(h:j<s.size):cAt s j=(s[j].toNat:Int):=by
 have h':j<s.data.toList.length:=by simpa using h
 unfold cAt
 rw [List.getD_eq_getElem?_getD,List.getElem?_eq_getElem h']
 rfl
def SaysW (P:Prop)(w:World)(e:Ending)(w':World):Prop:=∃ b,e=.returned (.bool b)∧Hid (b=true↔P)∧w=w'
theorem saysW_t {P:Prop}{w:World}(h:P):SaysW P w (.returned (.bool true)) w:=⟨true,rfl,⟨fun _=>h,fun _=>rfl⟩,rfl⟩
theorem saysW_f {P:Prop}{w:World}(h:¬ P):SaysW P w (.returned (.bool false)) w:=⟨false,rfl,⟨fun e=>(by cases e),fun e=>absurd e h⟩,rfl⟩
open Go.RowKit
theorem own_new_empty {B:Nat}(w:World)(h:B≤w.heap.size):Own B (w.alloc (.cells #[] 5)) (some ⟨w.heap.size,0,none⟩) 0 0 [] :=
 ⟨World.ownsRow_lit w #[] 0 h (Nat.zero_le _) rfl,by simp⟩
theorem own_nil (B:Nat)(w:World):Own B w none 0 0 []:=⟨World.ownsRow_nil _ _ _ _,by simp⟩
open Go.RowKit
structure Touch (lo hi:Nat)(w w':World):Prop where
 os:w'.os=w.os
 tape:w'.tape=w.tape
 output:w'.output=w.output
 size:w.heap.size≤w'.heap.size
 block:∀ k,k<w.heap.size→k<lo∨hi≤k→w'.heap[k]? = w.heap[k]?
theorem Touch.of_below {lo hi:Nat}{w w':World}(h:Below w.heap.size w w'):Touch lo hi w w':=⟨h.os,h.tape,h.output,h.size,fun k hk _=>h.block k hk⟩
theorem Touch.trans {lo hi:Nat}{a b c:World}(h:Touch lo hi a b)(k:Touch lo hi b c):Touch lo hi a c :=
 ⟨k.os.trans h.os,k.tape.trans h.tape,k.output.trans h.output,Nat.le_trans h.size k.size,fun i hi' ho=>(k.block i (Nat.lt_of_lt_of_le hi' h.size) ho).trans (h.block i hi' ho)⟩
theorem Touch.mono {lo hi lo' hi':Nat}{w w':World}(h:Touch lo hi w w')(h1:lo'≤lo)(h2:hi≤hi'):Touch lo' hi' w w' :=
 ⟨h.os,h.tape,h.output,h.size,fun k hk ho=>h.block k hk (by omega)⟩
theorem Touch.below {lo hi B:Nat}{w w':World}(h:Touch lo hi w w')(hB:B≤lo)(hw:B≤w.heap.size):Below B w w' :=
 ⟨h.os,h.tape,h.output,h.size,fun k hk=>h.block k (by omega) (by omega)⟩
def In (a:Option Addr)(n lo hi:Nat):Prop:=∀ b off,a=some ⟨b,off,none⟩→0<n→lo≤b∧b<hi
theorem Row.touch {lo hi p q:Nat}{w w':World}{a:Option Addr}{n:Nat}{bs:List Int}(h:Row w a n bs)(hi':In a n p q)(hd:q≤lo∨hi≤p)(ht:Touch lo hi w w'):Row w' a n bs:=by
 refine ⟨h.len,fun k hk=>?_,h.byte⟩
 obtain ⟨b,off,ha,hb,hc⟩:=h.get k hk
 have hp:=hi' b off ha (by omega)
 exact ⟨b,off,ha,Nat.lt_of_lt_of_le hb ht.size,(World.cell?_of_block (a:=⟨b,off+k,none⟩) (ht.block b hb (by omega))).trans hc⟩
open Go.RowKit
theorem row_cells {w:World}{ad:Addr}{m:Nat}{ys:List Int}(h:Row w (some ad) m ys):∀ j u,(ys.map (Value.int .u8))[j]? = some u→w.cell? (ad.add j)=some u:=by
 intro j u hj
 have hjl:j<ys.length:=by
  have:=(List.getElem?_eq_some_iff.1 hj).1
  simpa using this
 obtain ⟨b,off,ha,_,hc⟩:=h.get j (by rw [← h.len]; exact hjl)
 simp only [Option.some.injEq] at ha
 subst ha
 rw [Addr.add_lit,hc]
 simp [hjl] at hj
 simp [hjl,hj]
theorem row_none {w:World}{m:Nat}{ys:List Int}(h:Row w none m ys):m=0∧ys = []:=by
 rcases Nat.eq_zero_or_pos m with h0 | h0
 ·exact ⟨h0,List.eq_nil_of_length_eq_zero (by rw [h.len]; exact h0)⟩
 ·obtain ⟨b,off,ha,_⟩:=h.get 0 h0
  simp at ha
theorem wpList_append_row {P:Program}(w:World){ops:Array Oper}{rest:List Oper}{o:Oper}{a:Act}{Q:Exit→Act→World→Prop}
  (hg:o.guard=none) (s x:Operand) (t:TypeId) (hop:o.op=Op.call { callee:=Callee.builtin Builtin.append,args:=#[s,x],argTypes:=#[t,t] })
  (base:Nat) (i:TypeInfo) (h1:P.underlying t=some (.slice 5)) (h2:P.info? 5=some i) (h3:i.zero=some (.int .u8 0)) (h4:i.size=1) (h5:i.bytes=1)
  (v:Value) (n:Nat) (xs:List Value) (hs:a.eval s=v) (hown:w.ownsRow base 5 1 v n xs)
  (ao:Option Addr) (m c:Nat) (ys:List Int) (hx:a.eval x=.slice ao m c) (hrow:Row w ao m ys) (hnil:ao=none→c=0)
  (b1:n+m≤140737488355328) (b3:base≤w.heap.size)
  (hK:∀ v' w',w'.ownsRow base 5 1 v' (n+m) (xs++ys.map (Value.int .u8))→w.grownBy w' v.ownBlock→wpList P ops Q rest (a.put o.dst v') w') :
  wpList P ops Q (o::rest) a w:=by
 cases ao with
 | some ad =>
  refine wpList_append_own w hg s x t hop base 5 i (.int .u8 0) 1 1 h1 h2 h3 h4 h5 rfl (by decide) v n xs hs hown ad m c (ys.map (Value.int .u8)) hx (by rw [List.length_map,hrow.len,Nat.mul_one]) (row_cells hrow) (ints_oneCell _ _) (by unfold maxLen; omega) (by omega) b3 ?_
  intro v' w' r1 r2 _
  exact hK v' w' r1 r2
 | none =>
  obtain ⟨rfl,rfl⟩:=row_none hrow
  obtain rfl:=hnil rfl
  refine wpList_append_own_none hg s x t hop base 5 i 1 h1 h2 v n xs hs hown hx ?_
  exact hK v w (by simpa using hown) (World.grownBy.refl _ _)
open Go.RowKit
theorem inBounds_t (x lo hi:Int)(w:World)(h:lo≤x∧x≤hi):Calls Tryz.prog 60 #[.int .i64 x,.int .i64 lo,.int .i64 hi] w fun e w'=>e=.returned (.bool true)∧w'=w:=by
 obtain ⟨h1,h2⟩:=h
 go_enter Tryz.func60,Tryz.ntmps60
 go_wp2
 go_ret
 exact ⟨by simp [*],rfl⟩
theorem inBounds_f (x lo hi:Int)(w:World)(h:¬ (lo≤x∧x≤hi)):Calls Tryz.prog 60 #[.int .i64 x,.int .i64 lo,.int .i64 hi] w fun e w'=>e=.returned (.bool false)∧w'=w:=by
 by_cases h1:lo≤x
 ·have h2:hi<x:=by omega
  clear h
  go_enter Tryz.func60,Tryz.ntmps60
  go_wp2
  go_ret
  exact ⟨by simp [*],rfl⟩
 ·have h2:x<lo:=by omega
  clear h h1
  go_enter Tryz.func60,Tryz.ntmps60
  go_wp2
  go_ret
  exact ⟨by simp [*],rfl⟩
theorem l1In_t (x lo hi:Int)(w:World)(h:lo≤x∧x≤hi):Calls Tryz.prog 41 #[.int .i64 x,.int .i64 lo,.int .i64 hi] w fun e w'=>e=.returned (.bool true)∧w'=w:=by
 obtain ⟨h1,h2⟩:=h
 go_enter Tryz.func41,Tryz.ntmps41
 go_wp2
 go_ret
 exact ⟨by simp [*],rfl⟩
theorem l1In_f (x lo hi:Int)(w:World)(h:¬ (lo≤x∧x≤hi)):Calls Tryz.prog 41 #[.int .i64 x,.int .i64 lo,.int .i64 hi] w fun e w'=>e=.returned (.bool false)∧w'=w:=by
 by_cases h1:lo≤x
 ·have h2:hi<x:=by omega
  clear h
  go_enter Tryz.func41,Tryz.ntmps41
  go_wp2
  go_ret
  exact ⟨by simp [*],rfl⟩
 ·have h2:x<lo:=by omega
  clear h h1
  go_enter Tryz.func41,Tryz.ntmps41
  go_wp2
  go_ret
  exact ⟨by simp [*],rfl⟩
theorem wraps_i64' (n:Int)(h₀:0≤n)(h₁:n<2 ^ 63):IntKind.i64.wrap n=n:=by rw [IntKind.wrap_i64]; omega
theorem and1 (x:Int)(hx:0≤x)(hx':x≤9223372036854775807):bits .and .i64 x 1=x % 2:=bits_mask .i64 63 (by decide) wraps_i64' 1 (by decide) x hx (by omega)
def pw (b:Int)(e:Nat)(m:Int):Int:=b ^ e % m
theorem pow_emod (b m:Int)(e:Nat):(b % m) ^ e % m=b ^ e % m:=by
 induction e with
 | zero=>rw [Int.pow_zero,Int.pow_zero]
 | succ e ih=>rw [Int.pow_succ,Int.mul_emod,ih,Int.emod_emod_of_dvd _ (Int.dvd_refl m),← Int.mul_emod,Int.pow_succ]
theorem sq_pow (b:Int)(k:Nat):(b * b) ^ k=b ^ (2 * k):=by
 induction k with
 | zero=>rw [Int.pow_zero,Nat.mul_zero,Int.pow_zero]
 | succ k ih=>rw [Int.pow_succ,ih,show 2 * (k+1)=2 * k+1+1 by omega,Int.pow_succ,Int.pow_succ,Int.mul_assoc]
theorem pw_even (out b m:Int)(e:Nat)(h:e % 2=0):out * (b * b % m) ^ (e / 2) % m=out * b ^ e % m:=by
 rw [Int.mul_emod,pow_emod,← Int.mul_emod,sq_pow,show 2 * (e / 2)=e by omega]
theorem pw_odd (out b m:Int)(e:Nat)(h:e % 2=1):(out * b % m) * (b * b % m) ^ (e / 2) % m=out * b ^ e % m:=by
 rw [Int.mul_emod,pow_emod,Int.emod_emod_of_dvd _ (Int.dvd_refl m),← Int.mul_emod,sq_pow,Int.mul_assoc,show b * b ^ (2 * (e / 2))=b ^ e by
  conv=>rhs; rw [show e=2 * (e / 2)+1 by omega]
  rw [Int.pow_succ,Int.mul_comm]]
theorem mul_bd {a b m:Int}(ha:0≤a)(ha':a<m)(hb:0≤b)(hb':b<m)(hm:m≤2147483648):0≤a * b∧a * b≤4611686018427387904:=by
 refine ⟨Int.mul_nonneg ha hb,?_⟩
 have h1:a * b≤2147483648 * b:=Int.mul_le_mul_of_nonneg_right (by omega) hb
 omega
theorem mod_bd (a:Int){m:Int}(h:1≤m):0≤a % m∧a % m<m:=⟨Int.emod_nonneg _ (by omega),Int.emod_lt_of_pos _ (by omega)⟩
theorem l7Pow_any (b e m:Int)(w:World)(hm:1≤m)(hm':m≤2147483648)(hb:0≤b)(hb':b<m)(he:0≤e)(he':e≤9223372036854775807) :
  Calls Tryz.prog 87 #[.int .i64 b,.int .i64 e,.int .i64 m] w fun r w'=>r=.returned (.int .i64 (pw b e.toNat m))∧w'=w:=by
 have HV:Hid ((1 % m) * b ^ e.toNat % m=pw b e.toNat m):=by show _=_; unfold pw; rw [Int.mul_emod,Int.emod_emod_of_dvd _ (Int.dvd_refl m),← Int.mul_emod,Int.one_mul]
 have h1:=mod_bd 1 hm
 go_enter Tryz.func87,Tryz.ntmps87
 go_wp2
 go_loopw [0,1,7] (fun vb ve vo wr=>∃ (b' e' out:Int),vb=.int .i64 b'∧ve=.int .i64 e'∧vo=.int .i64 out∧0≤b'∧b'<m∧0≤e'∧e'≤9223372036854775807∧0≤out∧out<m∧Hid (out * b' ^ e'.toNat % m=pw b e.toNat m)∧w=wr) (fun _ ve _ _=>(intOf ve).toNat)
 case atStart=>exact ⟨b,e,1 % m,rfl,rfl,rfl,hb,hb',he,he',h1.1,h1.2,HV,rfl⟩
 case round =>
  obtain ⟨b',e',out,rfl,rfl,rfl,hb0,hb1,he0,he1,ho0,ho1,HI,rfl⟩:=hrel
  by_cases hp:0<e'
  ·have hbb:=mul_bd hb0 hb1 hb0 hb1 hm'
   have hob:=mul_bd ho0 ho1 hb0 hb1 hm'
   have hbm:=mod_bd (b' * b') hm
   have hom:=mod_bd (out * b') hm
   have ha:=and1 e' he0 he1
   by_cases hodd:e' % 2=1
   ·have HN:Hid ((out * b' % m) * (b' * b' % m) ^ (e' / 2).toNat % m=pw b e.toNat m):=by
     show _=_
     rw [← HI.out,show (e' / 2).toNat=e'.toNat / 2 by omega]
     exact pw_odd out b' m e'.toNat (by omega)
    have z:(e' % 2 == 1)=true:=beq_iff_eq.2 hodd
    clear hodd HI
    go_wp2
    go_roundw
    case rel=>exact ⟨_,_,_,rfl,rfl,rfl,hbm.1,hbm.2,by omega,by omega,hom.1,hom.2,HN,by trivial⟩
    case measure=>simp [intOf]; omega
   ·have HN:Hid (out * (b' * b' % m) ^ (e' / 2).toNat % m=pw b e.toNat m):=by
     show _=_
     rw [← HI.out,show (e' / 2).toNat=e'.toNat / 2 by omega]
     exact pw_even out b' m e'.toNat (by omega)
    have z:(e' % 2 == 1)=false:=beq_false_of_ne hodd
    clear hodd HI
    go_wp2
    go_roundw
    case rel=>exact ⟨_,_,_,rfl,rfl,rfl,hbm.1,hbm.2,by omega,by omega,ho0,ho1,HN,by trivial⟩
    case measure=>simp [intOf]; omega
  ·obtain rfl:e'=0:=by omega
   have HE:Hid (out=pw b e.toNat m):=by
    show _=_
    rw [← HI.out,show Int.toNat 0=0 from rfl,Int.pow_zero,Int.mul_one,Int.emod_eq_of_lt ho0 ho1]
   clear HI
   go_wp2
   go_ret
   exact ⟨by rw [← HE.out]; rfl,rfl⟩
open Go.RowKit
structure TouchX (P:Nat→Prop)(w w':World):Prop where
 os:w'.os=w.os
 tape:w'.tape=w.tape
 output:w'.output=w.output
 size:w.heap.size≤w'.heap.size
 block:∀ k,k<w.heap.size→¬ P k→w'.heap[k]? = w.heap[k]?
theorem Touch.toX {lo hi:Nat}{w w':World}(h:Touch lo hi w w'):TouchX (fun k=>lo≤k∧k<hi) w w':=⟨h.os,h.tape,h.output,h.size,fun k hk hn=>h.block k hk (by have:¬ (lo≤k∧k<hi):=hn; omega)⟩
theorem TouchX.of_below {P:Nat→Prop}{w w':World}(h:Below w.heap.size w w'):TouchX P w w':=⟨h.os,h.tape,h.output,h.size,fun k hk _=>h.block k hk⟩
theorem touchX_g {w w':World}{row:Option Nat}{P:Nat→Prop}(hg:w.grownBy w' row)(hr:∀ k,row=some k→P k):TouchX P w w' :=
 ⟨hg.os,hg.tape,hg.output,hg.size,fun k hk hn=>hg.block k hk (fun e=>hn (hr k e.symm))⟩
theorem ownsRow_moveX {P S:Nat→Prop}{B e size n:Nat}{w w':World}{v:Value}{xs:List Value}(h:w.ownsRow B e size v n xs)(hS:∀ k,v.ownBlock=some k→S k)(hd:∀ k,S k→¬ P k)(ht:TouchX P w w'):w'.ownsRow B e size v n xs:=by
 refine ⟨h.1,?_⟩
 rcases h.2 with hn | ⟨g,cap,cur,rfl,hbb,hgg,rest⟩
 ·exact .inl hn
 ·exact .inr ⟨g,cap,cur,rfl,hbb,(ht.block g (Array.getElem?_eq_some_iff.1 hgg).1 (hd g (hS g rfl))).trans hgg,rest⟩
theorem ret_shaped_and {H:Type}{enc:TypeId × Value→H}{a:Assume}{C:Checked}{os:Os}{f:FuncId}{fn:Func}{s:ChangeSpec}{conds:List PathCond}{apart fresh handsOn again:Bool}{X:World→Array Value→Prop}
  (hX:∀ (w w':World) (args:Array Value),w.heap=w'.heap→X w args→X w' args)
  (own:ownKnob C.prog.godebug=none) (started:os.Started) (noInit:C.prog.inits.idxOf? f=none) (hfn:C.prog.funcs[f]? = some fn)
  (witness:∃ (w:World) (tape:Tape) (i:Input),w.os=os∧(w.forCall tape i).Shaped C.prog∧i.vars = []∧Input.okWide C.prog (w.forCall tape i) .any w.heap.size f i ∧
   ((s.pre enc C.prog fn conds apart (w.forCall tape i).memory i.args∧X (w.forCall tape i).memory i.args)∧sizedMet enc C.prog fn (OpenSpec.ofChange s) apart (w.forCall tape i).memory i.args)∧a.holds C.prog (lone (Frame.enter C.prog f i.args .normal) [] (w.forCall tape i)))
  (contract:∀ (W:World) (base:Nat) (args:Array Value) (ds gs:List (DataW H)) (before:List MemPlace),
   (∀ (j:Nat) t v,fn.params[j]? = some t→args[j]? = some v→Value.okWide C.prog W .any base t v) →
   DataW.Whole enc C.prog fn.params.toList s.vars apart W args.toList ds gs before →
   X W args→W.ShapedOpen C.prog →
   Calls C.prog f args W fun e W'=>∃ v,e=.returned v∧s.post enc C.prog fn apart fresh handsOn again W args v W') :
  ReturnsInHanded a C os f .any (fun w args=>(s.pre enc C.prog fn conds apart w args∧X w args)∧sizedMet enc C.prog fn (OpenSpec.ofChange s) apart w args) (s.post enc C.prog fn apart fresh handsOn again):=by
 refine returnsInHanded_of_calls own started noInit witness ?_
 intro w tape i _ hsh _ hok hpre _
 obtain ⟨_,_,_,fn',hfn',_,_,_,_,hval⟩:=hok
 have e:fn'=fn:=Option.some.inj (hfn'.symm.trans hfn)
 subst e
 obtain ⟨⟨⟨ds,gs,before,hw,_⟩,hx⟩,_⟩:=hpre
 have hw':=DataW.Whole.of_heap (w':=w.forCall tape i) (by rfl) hw
 refine (contract (w.forCall tape i) w.heap.size i.args ds gs before hval hw' (hX _ _ _ (by rfl) hx) hsh).mono fun e W' ⟨v,he,hp⟩=>?_
 subst he
 exact ChangeSpec.post_blind hp
end Go.Proofs.YtnmplldhdfingaaGreatDoor
