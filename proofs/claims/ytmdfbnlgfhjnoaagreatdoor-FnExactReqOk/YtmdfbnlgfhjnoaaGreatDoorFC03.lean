import Derived.Test.YtmdfbnlgfhjnoaaGreatDoorChecked
import Derived.Laws.Rows
import Derived.Test.YtmdfbnlgfhjnoaaGreatDoorFC01
set_option maxRecDepth 10000
set_option maxHeartbeats 8000000
set_option linter.unusedVariables false
namespace Go.Proofs.YtmdfbnlgfhjnoaaGreatDoor
open Go.RowKit
structure Touch (lo hi:Nat)(w w':World):Prop where
 os:w'.os=w.os
 tape:w'.tape=w.tape
 output:w'.output=w.output
 size:w.heap.size≤w'.heap.size
 block:∀ k,k<w.heap.size→k<lo∨hi≤k→w'.heap[k]? = w.heap[k]?
theorem Touch.of_below {lo hi:Nat}{w w':World}(h:Below w.heap.size w w'):Touch lo hi w w':=⟨h.os,h.tape,h.output,h.size,fun k hk _=>h.block k hk⟩
theorem Touch.trans {lo hi:Nat}{a b c:World}(h:Touch lo hi a b)(k:Touch lo hi b c):Touch lo hi a c :=
 ⟨k.os.trans h.os,k.tape.trans h.tape,k.output.trans h.output,Nat.le_trans h.size k.size,fun i hi' ho=>(k.block i (Nat.lt_of_lt_of_le hi' h.size) ho).trans (h.block i hi' ho)⟩
theorem Touch.below {lo hi B:Nat}{w w':World}(h:Touch lo hi w w')(hB:B≤lo)(hw:B≤w.heap.size):Below B w w' :=
 ⟨h.os,h.tape,h.output,h.size,fun k hk=>h.block k (by omega) (by omega)⟩
def In (a:Option Addr)(n lo hi:Nat):Prop:=∀ b off,a=some ⟨b,off,none⟩→0<n→lo≤b∧b<hi
theorem Row.touch {lo hi p q:Nat}{w w':World}{a:Option Addr}{n:Nat}{bs:List Int}(h:Row w a n bs)(hi':In a n p q)(hd:q≤lo∨hi≤p)(ht:Touch lo hi w w'):Row w' a n bs:=by
 refine ⟨h.len,fun k hk=>?_,h.byte⟩
 obtain ⟨b,off,ha,hb,hc⟩:=h.get k hk
 have hp:=hi' b off ha (by omega)
 exact ⟨b,off,ha,Nat.lt_of_lt_of_le hb ht.size,(World.cell?_of_block (a:=⟨b,off+k,none⟩) (ht.block b hb (by omega))).trans hc⟩
open Go.RowKit
theorem inBounds_t (x lo hi:Int)(w:World)(h:lo≤x∧x≤hi):Calls Tryz.prog 94 #[.int .i64 x,.int .i64 lo,.int .i64 hi] w fun e w'=>e=.returned (.bool true)∧w'=w:=by
 obtain ⟨h1,h2⟩:=h
 go_enter Tryz.func94,Tryz.ntmps94
 go_wp2
 go_ret
 exact ⟨by simp [*],rfl⟩
theorem inBounds_f (x lo hi:Int)(w:World)(h:¬ (lo≤x∧x≤hi)):Calls Tryz.prog 94 #[.int .i64 x,.int .i64 lo,.int .i64 hi] w fun e w'=>e=.returned (.bool false)∧w'=w:=by
 by_cases h1:lo≤x
 ·have h2:hi<x:=by omega
  clear h
  go_enter Tryz.func94,Tryz.ntmps94
  go_wp2
  go_ret
  exact ⟨by simp [*],rfl⟩
 ·have h2:x<lo:=by omega
  clear h h1
  go_enter Tryz.func94,Tryz.ntmps94
  go_wp2
  go_ret
  exact ⟨by simp [*],rfl⟩
theorem l1In_t (x lo hi:Int)(w:World)(h:lo≤x∧x≤hi):Calls Tryz.prog 74 #[.int .i64 x,.int .i64 lo,.int .i64 hi] w fun e w'=>e=.returned (.bool true)∧w'=w:=by
 obtain ⟨h1,h2⟩:=h
 go_enter Tryz.func74,Tryz.ntmps74
 go_wp2
 go_ret
 exact ⟨by simp [*],rfl⟩
theorem l1In_f (x lo hi:Int)(w:World)(h:¬ (lo≤x∧x≤hi)):Calls Tryz.prog 74 #[.int .i64 x,.int .i64 lo,.int .i64 hi] w fun e w'=>e=.returned (.bool false)∧w'=w:=by
 by_cases h1:lo≤x
 ·have h2:hi<x:=by omega
  clear h
  go_enter Tryz.func74,Tryz.ntmps74
  go_wp2
  go_ret
  exact ⟨by simp [*],rfl⟩
 ·have h2:x<lo:=by omega
  clear h h1
  go_enter Tryz.func74,Tryz.ntmps74
  go_wp2
  go_ret
  exact ⟨by simp [*],rfl⟩
theorem wraps_i64' (n:Int)(h₀:0≤n)(h₁:n<2 ^ 63):IntKind.i64.wrap n=n:=by rw [IntKind.wrap_i64]; omega
theorem and1 (x:Int)(hx:0≤x)(hx':x≤9223372036854775807):bits .and .i64 x 1=x % 2:=bits_mask .i64 63 (by decide) wraps_i64' 1 (by decide) x hx (by omega)
def pw (b:Int)(e:Nat)(m:Int):Int:=b ^ e % m
theorem pow_emod (b m:Int)(e:Nat):(b % m) ^ e % m=b ^ e % m:=by
 induction e with
 | zero=>rw [Int.pow_zero,Int.pow_zero]
 | succ e ih=>rw [Int.pow_succ,Int.mul_emod,ih,Int.emod_emod_of_dvd _ (Int.dvd_refl m),← Int.mul_emod,Int.pow_succ]
theorem sq_pow (b:Int)(k:Nat):(b * b) ^ k=b ^ (2 * k):=by
 induction k with
 | zero=>rw [Int.pow_zero,Nat.mul_zero,Int.pow_zero]
 | succ k ih=>rw [Int.pow_succ,ih,show 2 * (k+1)=2 * k+1+1 by omega,Int.pow_succ,Int.pow_succ,Int.mul_assoc]
theorem pw_even (out b m:Int)(e:Nat)(h:e % 2=0):out * (b * b % m) ^ (e / 2) % m=out * b ^ e % m:=by
 rw [Int.mul_emod,pow_emod,← Int.mul_emod,sq_pow,show 2 * (e / 2)=e by omega]
theorem pw_odd (out b m:Int)(e:Nat)(h:e % 2=1):(out * b % m) * (b * b % m) ^ (e / 2) % m=out * b ^ e % m:=by
 rw [Int.mul_emod,pow_emod,Int.emod_emod_of_dvd _ (Int.dvd_refl m),← Int.mul_emod,sq_pow,Int.mul_assoc,show b * b ^ (2 * (e / 2))=b ^ e by
  conv=>rhs; rw [show e=2 * (e / 2)+1 by omega]
  rw [Int.pow_succ,Int.mul_comm]]
theorem mul_bd {a b m:Int}(ha:0≤a)(ha':a<m)(hb:0≤b)(hb':b<m)(hm:m≤2147483648):0≤a * b∧a * b≤4611686018427387904:=by
 refine ⟨Int.mul_nonneg ha hb,?_⟩
 have h1:a * b≤2147483648 * b:=Int.mul_le_mul_of_nonneg_right (by omega) hb
 omega
theorem mod_bd (a:Int){m:Int}(h:1≤m):0≤a % m∧a % m<m:=⟨Int.emod_nonneg _ (by omega),Int.emod_lt_of_pos _ (by omega)⟩
theorem l7Pow_any (b e m:Int)(w:World)(hm:1≤m)(hm':m≤2147483648)(hb:0≤b)(hb':b<m)(he:0≤e)(he':e≤9223372036854775807) :
  Calls Tryz.prog 164 #[.int .i64 b,.int .i64 e,.int .i64 m] w fun r w'=>r=.returned (.int .i64 (pw b e.toNat m))∧w'=w:=by
 have HV:Hid ((1 % m) * b ^ e.toNat % m=pw b e.toNat m):=by show _=_; unfold pw; rw [Int.mul_emod,Int.emod_emod_of_dvd _ (Int.dvd_refl m),← Int.mul_emod,Int.one_mul]
 have h1:=mod_bd 1 hm
 go_enter Tryz.func164,Tryz.ntmps164
 go_wp2
 go_loopw [0,1,7] (fun vb ve vo wr=>∃ (b' e' out:Int),vb=.int .i64 b'∧ve=.int .i64 e'∧vo=.int .i64 out∧0≤b'∧b'<m∧0≤e'∧e'≤9223372036854775807∧0≤out∧out<m∧Hid (out * b' ^ e'.toNat % m=pw b e.toNat m)∧w=wr) (fun _ ve _ _=>(intOf ve).toNat)
 case atStart=>exact ⟨b,e,1 % m,rfl,rfl,rfl,hb,hb',he,he',h1.1,h1.2,HV,rfl⟩
 case round =>
  obtain ⟨b',e',out,rfl,rfl,rfl,hb0,hb1,he0,he1,ho0,ho1,HI,rfl⟩:=hrel
  by_cases hp:0<e'
  ·have hbb:=mul_bd hb0 hb1 hb0 hb1 hm'
   have hob:=mul_bd ho0 ho1 hb0 hb1 hm'
   have hbm:=mod_bd (b' * b') hm
   have hom:=mod_bd (out * b') hm
   have ha:=and1 e' he0 he1
   by_cases hodd:e' % 2=1
   ·have HN:Hid ((out * b' % m) * (b' * b' % m) ^ (e' / 2).toNat % m=pw b e.toNat m):=by
     show _=_
     rw [← HI.out,show (e' / 2).toNat=e'.toNat / 2 by omega]
     exact pw_odd out b' m e'.toNat (by omega)
    have z:(e' % 2 == 1)=true:=beq_iff_eq.2 hodd
    clear hodd HI
    go_wp2
    go_roundw
    case rel=>exact ⟨_,_,_,rfl,rfl,rfl,hbm.1,hbm.2,by omega,by omega,hom.1,hom.2,HN,by trivial⟩
    case measure=>simp [intOf]; omega
   ·have HN:Hid (out * (b' * b' % m) ^ (e' / 2).toNat % m=pw b e.toNat m):=by
     show _=_
     rw [← HI.out,show (e' / 2).toNat=e'.toNat / 2 by omega]
     exact pw_even out b' m e'.toNat (by omega)
    have z:(e' % 2 == 1)=false:=beq_false_of_ne hodd
    clear hodd HI
    go_wp2
    go_roundw
    case rel=>exact ⟨_,_,_,rfl,rfl,rfl,hbm.1,hbm.2,by omega,by omega,ho0,ho1,HN,by trivial⟩
    case measure=>simp [intOf]; omega
  ·obtain rfl:e'=0:=by omega
   have HE:Hid (out=pw b e.toNat m):=by
    show _=_
    rw [← HI.out,show Int.toNat 0=0 from rfl,Int.pow_zero,Int.mul_one,Int.emod_eq_of_lt ho0 ho1]
   clear HI
   go_wp2
   go_ret
   exact ⟨by rw [← HE.out]; rfl,rfl⟩
open Go.RowKit
def powOk (b e m:Int):Prop:=(1≤m∧m≤2147483648)∧(0≤b∧b≤m - 1)∧0≤e
instance (b e m:Int):Decidable (powOk b e m):=by unfold powOk; infer_instance
def powV (b e m:Int):Int × Bool:=if powOk b e m then (pw b e.toNat m,true) else (0,false)
def pair (t:Int × Bool):Value:=.tuple #[.int .i64 t.1,.bool t.2]
theorem implPowMod_any (b e m:Int)(w:World)(he':e≤9223372036854775807) :
  Calls Tryz.prog 277 #[.int .i64 b,.int .i64 e,.int .i64 m] w fun r w'=>r=.returned (pair (powV b e m))∧w'=w:=by
 by_cases h1:1≤m∧m≤2147483648
 ·by_cases h2:0≤b∧b≤m - 1
  ·by_cases h3:0≤e
   ·have HR:Hid (powV b e m=(pw b e.toNat m,true)):=by show _=_; unfold powV; rw [if_pos ⟨h1,h2,h3⟩]
    have HV:Hid ((1 % m) * b ^ e.toNat % m=pw b e.toNat m):=by show _=_; unfold pw; rw [Int.mul_emod,Int.emod_emod_of_dvd _ (Int.dvd_refl m),← Int.mul_emod,Int.one_mul]
    obtain ⟨hm,hm'⟩:=h1
    obtain ⟨hb,hb'⟩:=h2
    have hb1:b<m:=by omega
    have hm1:=mod_bd 1 hm
    go_enter Tryz.func277,Tryz.ntmps277
    go_wp2_with fail
    refine (inBounds_t m 1 2147483648 _ ⟨hm,hm'⟩).mono ?_
    rintro r w1 ⟨rfl,rfl⟩
    go_wp2_with fail
    refine (inBounds_t b 0 (m - 1) _ ⟨hb,hb'⟩).mono ?_
    rintro r w1 ⟨rfl,rfl⟩
    go_wp2
    go_loopw [0,1,8] (fun vb ve vo wr=>∃ (b' e' out:Int),vb=.int .i64 b'∧ve=.int .i64 e'∧vo=.int .i64 out∧0≤b'∧b'<m∧0≤e'∧e'≤9223372036854775807∧0≤out∧out<m∧Hid (out * b' ^ e'.toNat % m=pw b e.toNat m)∧w1=wr) (fun _ ve _ _=>(intOf ve).toNat)
    case atStart=>exact ⟨b,e,1 % m,rfl,rfl,rfl,hb,hb1,h3,he',hm1.1,hm1.2,HV,rfl⟩
    case round =>
     obtain ⟨b',e',out,rfl,rfl,rfl,hb0,hb1,he0,he1,ho0,ho1,HI,rfl⟩:=hrel
     by_cases hp:0<e'
     ·have hbb:=mul_bd hb0 hb1 hb0 hb1 hm'
      have hob:=mul_bd ho0 ho1 hb0 hb1 hm'
      have hbm:=mod_bd (b' * b') hm
      have hom:=mod_bd (out * b') hm
      have ha:=and1 e' he0 he1
      by_cases hodd:e' % 2=1
      ·have HN:Hid ((out * b' % m) * (b' * b' % m) ^ (e' / 2).toNat % m=pw b e.toNat m):=by
        show _=_
        rw [← HI.out,show (e' / 2).toNat=e'.toNat / 2 by omega]
        exact pw_odd out b' m e'.toNat (by omega)
       have z:(e' % 2 == 1)=true:=beq_iff_eq.2 hodd
       clear hodd HI
       go_wp2
       go_roundw
       case rel=>exact ⟨_,_,_,rfl,rfl,rfl,hbm.1,hbm.2,by omega,by omega,hom.1,hom.2,HN,by trivial⟩
       case measure=>simp [intOf]; omega
      ·have HN:Hid (out * (b' * b' % m) ^ (e' / 2).toNat % m=pw b e.toNat m):=by
        show _=_
        rw [← HI.out,show (e' / 2).toNat=e'.toNat / 2 by omega]
        exact pw_even out b' m e'.toNat (by omega)
       have z:(e' % 2 == 1)=false:=beq_false_of_ne hodd
       clear hodd HI
       go_wp2
       go_roundw
       case rel=>exact ⟨_,_,_,rfl,rfl,rfl,hbm.1,hbm.2,by omega,by omega,ho0,ho1,HN,by trivial⟩
       case measure=>simp [intOf]; omega
     ·obtain rfl:e'=0:=by omega
      have HE:Hid (out=pw b e.toNat m):=by
       show _=_
       rw [← HI.out,show Int.toNat 0=0 from rfl,Int.pow_zero,Int.mul_one,Int.emod_eq_of_lt ho0 ho1]
      clear HI
      go_wp2
      go_ret2
      exact ⟨by rw [HR.out,← HE.out]; rfl,rfl⟩
   ·have HV:Hid (powV b e m=(0,false)):=by show _=_; unfold powV; rw [if_neg (fun h=>h3 h.2.2)]
    go_enter Tryz.func277,Tryz.ntmps277
    go_wp2_with fail
    refine (inBounds_t m 1 2147483648 _ h1).mono ?_
    rintro r w1 ⟨rfl,rfl⟩
    go_wp2_with fail
    refine (inBounds_t b 0 (m - 1) _ h2).mono ?_
    rintro r w1 ⟨rfl,rfl⟩
    go_wp2
    go_ret2
    exact ⟨by rw [HV.out]; rfl,rfl⟩
  ·have HV:Hid (powV b e m=(0,false)):=by show _=_; unfold powV; rw [if_neg (fun h=>h2 h.2.1)]
   go_enter Tryz.func277,Tryz.ntmps277
   go_wp2_with fail
   refine (inBounds_t m 1 2147483648 _ h1).mono ?_
   rintro r w1 ⟨rfl,rfl⟩
   go_wp2_with fail
   refine (inBounds_f b 0 (m - 1) _ h2).mono ?_
   rintro r w1 ⟨rfl,rfl⟩
   go_wp2
   go_ret2
   exact ⟨by rw [HV.out]; rfl,rfl⟩
 ·have HV:Hid (powV b e m=(0,false)):=by show _=_; unfold powV; rw [if_neg (fun h=>h1 h.1)]
  go_enter Tryz.func277,Tryz.ntmps277
  go_wp2_with fail
  refine (inBounds_f m 1 2147483648 _ h1).mono ?_
  rintro r w1 ⟨rfl,rfl⟩
  go_wp2
  go_ret2
  exact ⟨by rw [HV.out]; rfl,rfl⟩
open Go.RowKit
structure Row64 (w:World)(a:Option Addr)(n:Nat)(zs:List Int):Prop where
 len:zs.length=n
 get:∀ k,k<n→∃ b off,a=some ⟨b,off,none⟩∧b<w.heap.size∧w.cell? ⟨b,off+k,none⟩=some (.int .i64 (zs.getD k 0))
theorem Tryz.info2:(Tryz.prog.info? 2).map (fun i=>(i.zero,i.size,i.bytes))=some (some (.int .i64 0),1,8):=by kernel_rfl
open Go.RowKit
structure TouchX (P:Nat→Prop)(w w':World):Prop where
 os:w'.os=w.os
 tape:w'.tape=w.tape
 output:w'.output=w.output
 size:w.heap.size≤w'.heap.size
 block:∀ k,k<w.heap.size→¬ P k→w'.heap[k]? = w.heap[k]?
theorem Touch.toX {lo hi:Nat}{w w':World}(h:Touch lo hi w w'):TouchX (fun k=>lo≤k∧k<hi) w w':=⟨h.os,h.tape,h.output,h.size,fun k hk hn=>h.block k hk (by have:¬ (lo≤k∧k<hi):=hn; omega)⟩
theorem TouchX.of_below {P:Nat→Prop}{w w':World}(h:Below w.heap.size w w'):TouchX P w w':=⟨h.os,h.tape,h.output,h.size,fun k hk _=>h.block k hk⟩
theorem touchX_g {w w':World}{row:Option Nat}{P:Nat→Prop}(hg:w.grownBy w' row)(hr:∀ k,row=some k→P k):TouchX P w w' :=
 ⟨hg.os,hg.tape,hg.output,hg.size,fun k hk hn=>hg.block k hk (fun e=>hn (hr k e.symm))⟩
theorem ownsRow_moveX {P S:Nat→Prop}{B e size n:Nat}{w w':World}{v:Value}{xs:List Value}(h:w.ownsRow B e size v n xs)(hS:∀ k,v.ownBlock=some k→S k)(hd:∀ k,S k→¬ P k)(ht:TouchX P w w'):w'.ownsRow B e size v n xs:=by
 refine ⟨h.1,?_⟩
 rcases h.2 with hn | ⟨g,cap,cur,rfl,hbb,hgg,rest⟩
 ·exact .inl hn
 ·exact .inr ⟨g,cap,cur,rfl,hbb,(ht.block g (Array.getElem?_eq_some_iff.1 hgg).1 (hd g (hS g rfl))).trans hgg,rest⟩
end Go.Proofs.YtmdfbnlgfhjnoaaGreatDoor
