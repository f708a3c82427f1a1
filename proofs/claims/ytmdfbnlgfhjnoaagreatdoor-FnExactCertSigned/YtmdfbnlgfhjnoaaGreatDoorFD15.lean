import Derived.WalkMore
import Derived.ScopeJumps
import Derived.Deep.DeepCutAuto
import Derived.Deep.RegionWith
import Derived.Test.YtmdfbnlgfhjnoaaGreatDoorFD04
set_option maxRecDepth 10000
set_option maxHeartbeats 8000000
set_option linter.unusedVariables false
namespace Go.Proofs.YtmdfbnlgfhjnoaaGreatDoor
open Go.RowKit
theorem Row64.take {w:World}{a:Option Addr}{n:Nat}{zs:List Int}(h:Row64 w a n zs)(k:Nat)(hk:k≤n):Row64 w a k (zs.take k):=by
 refine ⟨by rw [List.length_take,h.len]; omega,fun j hj=>?_⟩
 obtain ⟨b,off,ha,hb,hc⟩:=h.get j (by omega)
 exact ⟨b,off,ha,hb,hc.trans (by simp [hj])⟩
theorem mem_next (zs:List Int)(k:Nat)(h:k<zs.length)(x:Int):x∈zs.take (k+1)↔x∈zs.take k∨x=zs.getD k 0:=by
 have e:zs.getD k 0=zs[k]:=by simp [h]
 rw [List.take_succ_eq_append_getElem h,List.mem_append,List.mem_singleton,e]
theorem mem_all (zs:List Int)(k:Nat)(h:zs.length≤k):zs.take k=zs:=List.take_of_length_le h
theorem getD_mem (zs:List Int)(k:Nat)(h:k<zs.length):zs.getD k 0∈zs:=by
 have e:zs.getD k 0=zs[k]:=by simp [h]
 rw [e]; exact List.getElem_mem h
theorem index_any (a:Option Addr)(n c:Nat)(zs:List Int)(x:Int)(w:World)(h:Row64 w a n zs)(hn:n≤9223372036854775807) :
  Calls Tryz.prog 208 #[.slice a n c,.int .i64 x] w fun e w'=>∃ i:Int,e=.returned (.int .i64 i)∧Hid (0≤i↔x∈zs)∧w'=w:=by
 have H0:Hid (Row64 w a n zs):=h
 have HL:Hid (zs.length=n):=h.len
 clear h
 go_enter Tryz.func208,Tryz.ntmps208
 go_wp2
 go_loopw [8] (fun i wr=>∃ k:Nat,k≤n∧i=.int .i64 k∧Hid (x∉zs.take k)∧w=wr) (fun i _=>n - (intOf i).toNat)
 case atStart=>exact ⟨0,Nat.zero_le _,rfl,(by show _∉_; simp),rfl⟩
 case round =>
  obtain ⟨k,hk,rfl,HA,rfl⟩:=hrel
  by_cases hlt:k<n
  ·obtain ⟨b,off,rfl,hb,hc⟩:=H0.out.get k hlt
   obtain ⟨z,hz⟩:∃ z,z=zs.getD k 0:=⟨_,rfl⟩
   rw [← hz] at hc
   have HZ:Hid (z=zs.getD k 0):=hz
   have HM:Hid (k<zs.length):=by show _<_; rw [HL.out]; exact hlt
   have hlti:(k:Int)<(n:Int):=by omega
   clear hz
   by_cases he:x=z
   ·have HT:Hid (x∈zs):=by show _∈_; rw [he,HZ.out]; exact getD_mem zs k HM.out
    have ze:(x == z)=true:=beq_iff_eq.2 he
    clear he
    go_wp2
    go_ret
    exact ⟨_,rfl,⟨fun _=>HT.out,fun _=>by omega⟩,rfl⟩
   ·have HN:Hid (x∉zs.take (k+1)):=by
     show _∉_
     rw [mem_next zs k HM.out]
     rintro (h | h)
     ·exact HA.out h
     ·exact he (by rw [HZ.out]; exact h)
    have ze:(x == z)=false:=beq_false_of_ne he
    clear he HA
    go_wp2
    go_roundw
    case rel=>exact ⟨k+1,by omega,by go_num,HN,by trivial⟩
    case measure=>simp [intOf]; omega
  ·obtain rfl:k=n:=by omega
   have HN:Hid (x∉zs):=by show _∉_; have:=HA.out; rwa [mem_all zs k (by rw [HL.out]; exact Nat.le_refl _)] at this
   go_wp2
   go_ret
   exact ⟨_,rfl,⟨fun h=>absurd h (by decide),fun h=>absurd h HN.out⟩,rfl⟩
theorem contains_any (a:Option Addr)(n c:Nat)(zs:List Int)(x:Int)(w:World)(h:Row64 w a n zs)(hn:n≤9223372036854775807) :
  Calls Tryz.prog 177 #[.slice a n c,.int .i64 x] w fun e w'=>e=.returned (.bool (decide (x∈zs)))∧w'=w:=by
 have H0:Hid (Row64 w a n zs):=h
 clear h
 go_enter Tryz.func177,Tryz.ntmps177
 go_wp2_with fail
 refine (index_any a n c zs x _ H0.out hn).mono ?_
 rintro e w1 ⟨i,rfl,hi,rfl⟩
 have HD:Hid (decide (0≤i)=decide (x∈zs)):=by show _=_; exact decide_eq_decide.2 hi.out
 go_wp2
 go_ret
 exact ⟨by rw [← HD.out]; rfl,rfl⟩
theorem l1HasNum_any (a:Option Addr)(n c:Nat)(zs:List Int)(x:Int)(w:World)(h:Row64 w a n zs)(hn:n≤9223372036854775807) :
  Calls Tryz.prog 77 #[.slice a n c,.int .i64 x] w fun e w'=>e=.returned (.bool (decide (x∈zs)))∧w'=w:=by
 have H0:Hid (Row64 w a n zs):=h
 have HL:Hid (zs.length=n):=h.len
 clear h
 go_enter Tryz.func77,Tryz.ntmps77
 go_wp2
 go_loopw [5] (fun i wr=>∃ k:Nat,k≤n∧i=.int .i64 k∧Hid (x∉zs.take k)∧w=wr) (fun i _=>n - (intOf i).toNat)
 case atStart=>exact ⟨0,Nat.zero_le _,rfl,(by show _∉_; simp),rfl⟩
 case round =>
  obtain ⟨k,hk,rfl,HA,rfl⟩:=hrel
  by_cases hlt:k<n
  ·obtain ⟨b,off,rfl,hb,hc⟩:=H0.out.get k hlt
   obtain ⟨z,hz⟩:∃ z,z=zs.getD k 0:=⟨_,rfl⟩
   rw [← hz] at hc
   have HZ:Hid (z=zs.getD k 0):=hz
   have HM:Hid (k<zs.length):=by show _<_; rw [HL.out]; exact hlt
   have hlti:(k:Int)<(n:Int):=by omega
   clear hz
   by_cases he:z=x
   ·have HT:Hid (decide (x∈zs)=true):=decide_eq_true (by rw [← he,HZ.out]; exact getD_mem zs k HM.out)
    have ze:(z == x)=true:=beq_iff_eq.2 he
    clear he
    go_wp2
    go_ret
    exact ⟨by rw [HT.out]; rfl,rfl⟩
   ·have HN:Hid (x∉zs.take (k+1)):=by
     show _∉_
     rw [mem_next zs k HM.out]
     rintro (h | h)
     ·exact HA.out h
     ·exact he (by rw [HZ.out]; exact h.symm)
    have ze:(z == x)=false:=beq_false_of_ne he
    clear he HA
    go_wp2
    go_roundw
    case rel=>exact ⟨k+1,by omega,by go_num,HN,by trivial⟩
    case measure=>simp [intOf]; omega
  ·obtain rfl:k=n:=by omega
   have HN:Hid (decide (x∈zs)=false):=decide_eq_false (by have:=HA.out; rwa [mem_all zs k (by rw [HL.out]; exact Nat.le_refl _)] at this)
   go_wp2
   go_ret
   exact ⟨by rw [HN.out]; rfl,rfl⟩
def unl (zs:List Int):Prop:=∀ j,j<zs.length→zs.getD j 0∉zs.take j
instance (zs:List Int):Decidable (unl zs):=by unfold unl; infer_instance
def lenOf:Value→Nat
 | .slice _ n _=>n
 | _=>0
theorem allUnlike_any (a:Option Addr)(n c:Nat)(zs:List Int)(w:World)(h:Row64 w a n zs)(hn:n≤c)(hc:c≤9223372036854775807) :
  Calls Tryz.prog 143 #[.slice a n c] w fun e w'=>e=.returned (.bool (decide (unl zs)))∧w'=w:=by
 have H0:Hid (Row64 w a n zs):=h
 have HL:Hid (zs.length=n):=h.len
 clear h
 have HS:Hid (∀ j,n≤j→j<n→zs.getD j 0∉zs.take j):=fun j h1 h2=>absurd h1 (by omega)
 go_enter Tryz.func143,Tryz.ntmps143
 go_wp2
 refine wp_scope_jumps 0 (fun a' w'=>w=w'∧∃ (k:Nat) (u3 u4 u5 u6 u7 u8 u9 u10 u11 u12 u13 u14 u15 u16 u17 u18 u19 u20 u21:Value),a' = { tmps:=#[.slice a k c,undef,.bool false,u3,u4,u5,u6,u7,u8,u9,u10,u11,u12,u13,u14,u15,u16,u17,u18,u19,u20,u21],defers:=[] }∧k≤n∧Hid (∀ j,k≤j→j<n→zs.getD j 0∉zs.take j)) (fun a' _=>lenOf (a'.tmps.getD 0 undef)) rfl ?_ ?_
 ·by_cases h0:n=0
  ·have HT:Hid (decide (unl zs)=true):=decide_eq_true (fun j hj=>HS.out j (by omega) (by rw [HL.out] at hj; exact hj))
   have z0:((n:Int) == 0)=true:=by simp [h0]
   clear h0
   go_wp2
   go_step3
   go_wp2
   simp only [Exit.jump]
   go_ret
   exact ⟨by rw [HT.out]; rfl,rfl⟩
  ·obtain ⟨m,rfl⟩:∃ m,n=m+1:=⟨n - 1,by omega⟩
   have z0:(((m+1:Nat):Int) == 0)=false:=by simp; omega
   obtain ⟨b,off,rfl,hb,hcell⟩:=H0.out.get m (by omega)
   obtain ⟨z,hz⟩:∃ z,z=zs.getD m 0:=⟨_,rfl⟩
   rw [← hz] at hcell
   have HZ:Hid (z=zs.getD m 0):=hz
   have e1:((m+1:Nat):Int) - 1=(m:Int):=by omega
   clear hz h0
   go_wp2
   go_step3
   go_wp2_with fail
   refine (contains_any _ m c (zs.take m) z _ (H0.out.take m (by omega)) (by omega)).mono ?_
   rintro e w1 ⟨rfl,rfl⟩
   by_cases hin:z∈zs.take m
   ·have HT:Hid (decide (unl zs)=false):=decide_eq_false (fun hu=>hu m (by rw [HL.out]; omega) (by rw [← HZ.out]; exact hin))
    rw [decide_eq_true hin]
    clear hin
    go_wp2
    simp only [Exit.jump]
    go_ret
    exact ⟨by rw [HT.out]; rfl,rfl⟩
   ·have HN:Hid (∀ j,m≤j→j<m+1→zs.getD j 0∉zs.take j):=fun j h1 h2=>by
     by_cases e:j=m
     ·rw [e,← HZ.out]; exact hin
     ·exact HS.out j (by omega) h2
    rw [decide_eq_false hin]
    clear hin
    go_wp2_with fail
    go_step3
    exact ⟨rfl,rfl,m,_,_,_,_,_,_,_,_,_,_,_,_,_,_,_,_,_,_,_,rfl,by omega,HN⟩
 ·rintro a' w' ⟨rfl,k,u3,u4,u5,u6,u7,u8,u9,u10,u11,u12,u13,u14,u15,u16,u17,u18,u19,u20,u21,rfl,hk,HK⟩
  by_cases h0:k=0
  ·have HT:Hid (decide (unl zs)=true):=decide_eq_true (fun j hj=>HK.out j (by omega) (by rw [HL.out] at hj; exact hj))
   subst h0
   go_wp2
   simp only [Exit.jump]
   go_ret
   exact ⟨by rw [HT.out]; rfl,rfl⟩
  ·obtain ⟨m,rfl⟩:∃ m,k=m+1:=⟨k - 1,by omega⟩
   have z0:(((m+1:Nat):Int) == 0)=false:=by simp; omega
   obtain ⟨b,off,rfl,hb,hcell⟩:=H0.out.get m (by omega)
   obtain ⟨z,hz⟩:∃ z,z=zs.getD m 0:=⟨_,rfl⟩
   rw [← hz] at hcell
   have HZ:Hid (z=zs.getD m 0):=hz
   have e1:((m+1:Nat):Int) - 1=(m:Int):=by omega
   clear hz h0
   go_wp2_with fail
   refine (contains_any _ m c (zs.take m) z _ (H0.out.take m (by omega)) (by omega)).mono ?_
   rintro e w1 ⟨rfl,rfl⟩
   by_cases hin:z∈zs.take m
   ·have HT:Hid (decide (unl zs)=false):=decide_eq_false (fun hu=>hu m (by rw [HL.out]; omega) (by rw [← HZ.out]; exact hin))
    rw [decide_eq_true hin]
    clear hin
    go_wp2
    simp only [Exit.jump]
    go_ret
    exact ⟨by rw [HT.out]; rfl,rfl⟩
   ·have HN:Hid (∀ j,m≤j→j<n→zs.getD j 0∉zs.take j):=fun j h1 h2=>by
     by_cases e:j=m
     ·rw [e,← HZ.out]; exact hin
     ·exact HK.out j (by omega) h2
    rw [decide_eq_false hin]
    clear hin
    go_wp2_with fail
    go_step3
    exact ⟨rfl,⟨rfl,m,_,_,_,_,_,_,_,_,_,_,_,_,_,_,_,_,_,_,_,rfl,by omega,HN⟩,by simp [lenOf]⟩
open Go.RowKit
def pmv (p:Int × Int):Value:=.agg #[.int .i64 p.1,.int .i64 p.2]
structure Pms (w:World)(a:Option Addr)(n:Nat)(ps:List (Int × Int)):Prop where
 len:ps.length=n
 max:n≤9223372036854775807
 get:∀ k,k<n→∃ b off,a=some ⟨b,off,none⟩∧b<w.heap.size∧w.cell? ⟨b,off+k * 2,none⟩=some (.int .i64 (ps.getD k (0,0)).1)∧w.cell? ⟨b,off+k * 2+1,none⟩=some (.int .i64 (ps.getD k (0,0)).2)
theorem Pms.kept {w w':World}{a:Option Addr}{n:Nat}{ps:List (Int × Int)}(h:Pms w a n ps)(hb:Below w.heap.size w w'):Pms w' a n ps:=by
 refine ⟨h.len,h.max,fun k hk=>?_⟩
 obtain ⟨b,off,ha,hlt,h0,h1⟩:=h.get k hk
 exact ⟨b,off,ha,Nat.lt_of_lt_of_le hlt hb.size,(hb.cell (p:=⟨b,off+k * 2,none⟩) hlt).trans h0,(hb.cell (p:=⟨b,off+k * 2+1,none⟩) hlt).trans h1⟩
theorem keepP {a b c:World}(h1:Below a.heap.size a b)(h2:Below b.heap.size b c):Below a.heap.size a c:=h1.trans (h2.mono h1.size)
theorem szPolMapS_any (a:Option Addr)(n cap:Nat)(left:Int)(w:World)(hn:n≤9223372036854775807)(h0:0≤left)(h1:left≤1048576) :
  Calls Tryz.prog 32 #[.slice a n cap,.int .i64 left] w fun e w'=>∃ r,e=.returned (.int .i64 r)∧(r<0∨(0≤r∧r≤1048576∧n≤1048576))∧w=w':=by
 by_cases hlt:(n:Int)≤left
 ·go_enter Tryz.func32,Tryz.ntmps32
  go_wp2
  go_ret
  exact ⟨_,rfl,.inr (by omega),rfl⟩
 ·go_enter Tryz.func32,Tryz.ntmps32
  go_wp2
  go_ret
  exact ⟨_,rfl,.inl (by decide),rfl⟩
theorem eqPolMap_same (p:Int × Int)(w:World) :
  Calls Tryz.prog 114 #[pmv p,pmv p] w fun e w'=>e=.returned (.bool true)∧Below w.heap.size w w':=by
 obtain ⟨a,b⟩:=p
 unfold pmv
 have z1:(a != a)=false:=by simp
 have z2:(b != b)=false:=by simp
 go_enter Tryz.func114,Tryz.ntmps114
 go_wp2
 go_ret
 exact ⟨rfl,((Below.refl _ _).alloc (Nat.le_refl _) _).alloc (by simp) _⟩
theorem eqPolMapS_same (a b:Option Addr)(n ca cb:Nat)(ps:List (Int × Int))(w:World)(hx:Pms w a n ps)(hy:Pms w b n ps) :
  Calls Tryz.prog 51 #[.slice a n ca,.slice b n cb] w fun e w'=>e=.returned (.bool true)∧Below w.heap.size w w':=by
 have HX:Hid (Pms w a n ps):=hx
 have HY:Hid (Pms w b n ps):=hy
 have hn:=hx.max
 clear hx hy
 have zn:((n:Int) != (n:Int))=false:=by simp
 go_enter Tryz.func51,Tryz.ntmps51
 go_wp2
 go_loopw [5] (fun i wr=>∃ k:Nat,k≤n∧i=.int .i64 k∧Below w.heap.size w wr) (fun i _=>n - (intOf i).toNat)
 case atStart=>exact ⟨0,Nat.zero_le _,rfl,Below.refl _ _⟩
 case round =>
  obtain ⟨k,hk,rfl,hbr⟩:=hrel
  by_cases hlt:k<n
  ·obtain ⟨b1,o1,rfl,hl1,x0,x1⟩:=(HX.out.kept hbr).get k hlt
   obtain ⟨b2,o2,rfl,hl2,y0,y1⟩:=(HY.out.kept hbr).get k hlt
   obtain ⟨q,hq⟩:∃ q,q=ps.getD k (0,0):=⟨_,rfl⟩
   rw [← hq] at x0 x1 y0 y1
   clear hq
   have hlti:(k:Int)<(n:Int):=by omega
   go_wp2_with fail
   have EQ:Hid (_):=eqPolMap_same q wr.drew
   have e0:wr.drew.cell? ⟨b1,o1+k * 2,none⟩=some (.int .i64 q.1):=x0
   go_region_with ((go_at_call 114; refine Calls.mono EQ.out ?_; rintro e w2 ⟨rfl,hb2⟩))
   all_goals
    go_wp2
    go_roundw
    case rel=>exact ⟨k+1,by omega,by go_num,keepP hbr.drew hb2⟩
    case measure=>simp [intOf]; omega
  ·go_wp2
   go_ret
   exact ⟨rfl,hbr⟩
end Go.Proofs.YtmdfbnlgfhjnoaaGreatDoor
