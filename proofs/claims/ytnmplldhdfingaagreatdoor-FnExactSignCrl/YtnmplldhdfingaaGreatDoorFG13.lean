import Derived.Deep.RegionHeldLaw
import Derived.Deep.AppendLies
import Derived.Test.YtnmplldhdfingaaGreatDoorFG02
import Derived.Test.YtnmplldhdfingaaGreatDoorFG03
set_option maxRecDepth 10000
set_option maxHeartbeats 8000000
set_option linter.unusedVariables false
namespace Go.Proofs.YtnmplldhdfingaaGreatDoor
open Go.RowKit
inductive It where
 | mk (cls tag:Int) (cons:Bool) (body:List Int) (kids:List It)
instance:Inhabited It:=⟨.mk 0 0 false [] []⟩
def It.cls:It→Int | .mk c _ _ _ _=>c
def It.tag:It→Int | .mk _ t _ _ _=>t
def It.cons:It→Bool | .mk _ _ b _ _=>b
def It.body:It→List Int | .mk _ _ _ b _=>b
def It.kids:It→List It | .mk _ _ _ _ k=>k
def itv (x:It)(ab:Option Addr)(nb cb:Nat)(ak:Option Addr)(nk ck:Nat):Value:=.agg #[.int .i64 x.cls,.int .i64 x.tag,.bool x.cons,.slice ab nb cb,.slice ak nk ck]
def Kids:Nat→World→Option Addr→Nat→List It→Prop
 | 0,_,_,_,_=>False
 | d+1,w,a,n,xs=>xs.length=n∧n≤9223372036854775807∧∀ k,k<n→∃ b off,a=some ⟨b,off,none⟩∧b<w.heap.size∧∃ ab nb cb ak nk ck,
   w.cell? ⟨b,off+k * 5,none⟩=some (.int .i64 (xs.getD k default).cls)∧w.cell? ⟨b,off+k * 5+1,none⟩=some (.int .i64 (xs.getD k default).tag)∧w.cell? ⟨b,off+k * 5+2,none⟩=some (.bool (xs.getD k default).cons)
   ∧ w.cell? ⟨b,off+k * 5+3,none⟩=some (.slice ab nb cb)∧w.cell? ⟨b,off+k * 5+4,none⟩=some (.slice ak nk ck)
   ∧ Row w ab nb (xs.getD k default).body∧(ab=none→cb=0)∧nb≤9223372036854775807∧Kids d w ak nk (xs.getD k default).kids
theorem Kids.kept {d:Nat}:∀ {w w':World} {a:Option Addr} {n:Nat} {xs:List It},Kids d w a n xs→Below w.heap.size w w'→Kids d w' a n xs:=by
 induction d with
 | zero=>intro _ _ _ _ _ h; exact h.elim
 | succ d ih =>
  intro w w' a n xs h hb
  refine ⟨h.1,h.2.1,fun k hk=>?_⟩
  obtain ⟨b,off,ha,hlt,ab,nb,cb,ak,nk,ck,c0,c1,c2,c3,c4,hr,hn,hm,hk⟩:=h.2.2 k hk
  have cc:∀ j,w'.cell? ⟨b,j,none⟩=w.cell? ⟨b,j,none⟩:=fun j=>hb.cell (p:=⟨b,j,none⟩) hlt
  exact ⟨b,off,ha,Nat.lt_of_lt_of_le hlt hb.size,ab,nb,cb,ak,nk,ck,(cc _).trans c0,(cc _).trans c1,(cc _).trans c2,(cc _).trans c3,(cc _).trans c4,hr.kept hb,hn,hm,ih hk hb⟩
def It.shape (x:It):Bool:=decide (0≤x.cls∧x.cls≤3∧0≤x.tag∧x.tag≤268435455∧¬(x.cls=0∧x.tag=0)) && (if x.cons then x.body.isEmpty else x.kids.isEmpty)
def lenL (n:Nat):List Int:=if n<128 then [(n:Int)] else if n<256 then [129,(n:Int)] else if n<65536 then [130,(n:Int) / 256,(n:Int) % 256] else [131,(n:Int) / 65536,(n:Int) / 256 % 256,(n:Int) % 256]
theorem eight_small (n:Nat)(h:n<16777216)(x0 x1 x2 x3 x4 x5 x6 x7:Int)(he : [x0,x1,x2,x3,x4,x5,x6,x7]=eight n) :
  x0=0∧x1=0∧x2=0∧x3=0∧x4=0∧x5=(n:Int) / 65536∧x6=(n:Int) / 256 % 256∧x7=(n:Int) % 256:=by
 simp only [eight,List.cons.injEq] at he
 omega
theorem own_one (B:Nat)(w:World)(g:Nat)(hg:w.heap.size=g)(h:B≤w.heap.size)(x:Int)(hx:0≤x∧x≤255):Own B (w.alloc (.cells #[.int .u8 x] 5)) (some ⟨g,0,none⟩) 1 1 [x]:=by
 subst hg
 exact ⟨World.ownsRow_lit w #[.int .u8 x] 1 h (by decide) rfl,fun k=>by match k with | 0=>simpa using hx | k+1=>simp⟩
theorem row_tail (w:World)(x0 x1 x2 x3 x4 x5 x6 x7:Int)(t:TypeId)(o:Obj)(j m:Nat)(hj:j+m=8)(bs:List Int)(hbs:bs = [x0,x1,x2,x3,x4,x5,x6,x7].drop j)(hb:∀ k,0≤bs.getD k 0∧bs.getD k 0≤255) :
  Row ((w.alloc (.cells #[.int .u8 x0,.int .u8 x1,.int .u8 x2,.int .u8 x3,.int .u8 x4,.int .u8 x5,.int .u8 x6,.int .u8 x7] t)).alloc o) (some ⟨w.heap.size,j,none⟩) m bs:=by
 refine ⟨by rw [hbs]; simp; omega,fun k hk=>⟨_,_,rfl,by simp; omega,?_⟩,hb⟩
 have e1:=((Below.refl (w.alloc (.cells #[.int .u8 x0,.int .u8 x1,.int .u8 x2,.int .u8 x3,.int .u8 x4,.int .u8 x5,.int .u8 x6,.int .u8 x7] t)).heap.size (w.alloc (.cells #[.int .u8 x0,.int .u8 x1,.int .u8 x2,.int .u8 x3,.int .u8 x4,.int .u8 x5,.int .u8 x6,.int .u8 x7] t))).alloc (Nat.le_refl _) o).cell (p:=⟨w.heap.size,j+k,none⟩) (by simp)
 rw [e1,cell_of_row _ w.heap.size (j+k) _ t (0,0) (heap_alloc_new w _),hbs]
 have hc:j+k<8:=by omega
 have e2:([x0,x1,x2,x3,x4,x5,x6,x7].drop j).getD k 0 = [x0,x1,x2,x3,x4,x5,x6,x7].getD (j+k) 0:=by simp [List.getElem?_drop]
 rw [e2]
 obtain ⟨q,hq⟩:∃ q,q=j+k:=⟨_,rfl⟩
 rw [← hq] at hc ⊢
 have hc:q=0∨q=1∨q=2∨q=3∨q=4∨q=5∨q=6∨q=7:=by omega
 rcases hc with rfl | rfl | rfl | rfl | rfl | rfl | rfl | rfl <;> rfl
theorem lengthBytes_any (n:Nat)(w:World)(h:n<16777216) :
  Calls Tryz.prog 128 #[.int .i64 n] w fun e w'=>∃ a cap,e=.returned (.slice a (lenL n).length cap)∧Own w.heap.size w' a (lenL n).length cap (lenL n)∧Below w.heap.size w w':=by
 obtain ⟨i0,hi,hz0,hz1,hz2⟩:=info_parts Tryz.info5
 by_cases h1:n<128
 ·have el:lenL n = [(n:Int)]:=by rw [lenL,if_pos h1]
  rw [el]
  clear el
  have h1':(n:Int)<128:=by omega
  have hw:IntKind.u8.wrap (n:Int)=n:=by rw [IntKind.wrap_u8]; omega
  go_enter Tryz.func128,Tryz.ntmps128
  go_wp2
  go_ret
  exact ⟨_,_,rfl,own_one _ w _ rfl (Nat.le_refl _) n (by omega),(Below.refl _ _).alloc (Nat.le_refl _) _⟩
 ·have h1':¬ (n:Int)<128:=by omega
  go_enter Tryz.func128,Tryz.ntmps128
  go_wp2_with fail
  refine (eight_any n _ (by omega)).mono ?_
  rintro e w1 ⟨x0,x1,x2,x3,x4,x5,x6,x7,rfl,he,hb1⟩
  obtain ⟨rfl,rfl,rfl,rfl,rfl,h5,h6,h7⟩:=eight_small n h _ _ _ _ _ _ _ _ he
  clear he
  have hs1:=hb1.size
  by_cases h2:n<256
  ·have h5':x5=0:=by omega
   have h6':x6=0:=by omega
   have h7':x7=(n:Int):=by omega
   clear h5 h6 h7
   subst h5' h6' h7'
   have hne:((n:Int) == 0)=false:=by simp; omega
   have el:lenL n = [129,(n:Int)]:=by rw [lenL,if_neg h1,if_pos h2]
   have HO:Hid (Own w.heap.size ((w1.alloc (.cells #[.int .u8 0,.int .u8 0,.int .u8 0,.int .u8 0,.int .u8 0,.int .u8 0,.int .u8 0,.int .u8 n] 171)).alloc (.cells #[.int .u8 129] 5)) (some ⟨w1.heap.size+1,0,none⟩) 1 1 [129]):=own_one w.heap.size (w1.alloc (.cells #[.int .u8 0,.int .u8 0,.int .u8 0,.int .u8 0,.int .u8 0,.int .u8 0,.int .u8 0,.int .u8 n] 171)) _ (by simp) (by simp; omega) 129 (by decide)
   have HR:Hid (Row ((w1.alloc (.cells #[.int .u8 0,.int .u8 0,.int .u8 0,.int .u8 0,.int .u8 0,.int .u8 0,.int .u8 0,.int .u8 n] 171)).alloc (.cells #[.int .u8 129] 5)) (some ⟨w1.heap.size,7,none⟩) 1 [n]):=row_tail w1 (0) (0) (0) (0) (0) (0) (0) (n) 171 (.cells #[.int .u8 129] 5) 7 1 rfl [n] rfl (fun k=>by match k with | 0=>simp; omega | k+1=>simp)
   have hB2:Below w.heap.size w ((w1.alloc (.cells #[.int .u8 0,.int .u8 0,.int .u8 0,.int .u8 0,.int .u8 0,.int .u8 0,.int .u8 0,.int .u8 n] 171)).alloc (.cells #[.int .u8 129] 5)):=(hb1.alloc hs1 _).alloc (by simp; omega) _
   have EL:Hid (lenL n = [129,(n:Int)]):=el
   clear el
   go_wp2
   refine wp_loop_rounds 9 ?_
   iterate 7 (rw [rounds_succ]; go_wp2)
   rw [rounds_succ]
   go_wp2_with (at_builtin; refine wpList_append_row _ rfl (.tmp 22) (.tmp 24) 26 rfl w.heap.size i0 Tryz.underlying26 hi hz0 hz1 hz2 _ _ _ rfl HO.out.row _ 1 1 [n] rfl HR.out (by simp) (by omega) (by simp; omega) ?_; intro v3 w3 hv3 hg3)
   obtain ⟨a3,c3,rfl,ho3⟩:=own_appended (xs:=[129]) (ys:=[n]) hv3 HO.out.byte HR.out.byte
   have hb3:Below w.heap.size w w3:=below_appended hB2 (by simp; omega) HO.out.row hg3
   go_ret
   exact ⟨a3,c3,by rw [EL.out]; rfl,by rw [EL.out]; exact ho3,hb3⟩
  ·by_cases h3:n<65536
   ·have h5':x5=0:=by omega
    have h6':x6=(n:Int) / 256:=by omega
    clear h5 h6
    subst h5'
    have hne:(x6 == 0)=false:=by simp; omega
    have b6:0≤x6∧x6≤255:=by omega
    have b7:0≤x7∧x7≤255:=by omega
    have el:lenL n = [130,x6,x7]:=by rw [lenL,if_neg h1,if_neg h2,if_pos h3,h6',h7]
    have HO:Hid (Own w.heap.size ((w1.alloc (.cells #[.int .u8 0,.int .u8 0,.int .u8 0,.int .u8 0,.int .u8 0,.int .u8 0,.int .u8 x6,.int .u8 x7] 171)).alloc (.cells #[.int .u8 130] 5)) (some ⟨w1.heap.size+1,0,none⟩) 1 1 [130]):=own_one w.heap.size (w1.alloc (.cells #[.int .u8 0,.int .u8 0,.int .u8 0,.int .u8 0,.int .u8 0,.int .u8 0,.int .u8 x6,.int .u8 x7] 171)) _ (by simp) (by simp; omega) 130 (by decide)
    have HR:Hid (Row ((w1.alloc (.cells #[.int .u8 0,.int .u8 0,.int .u8 0,.int .u8 0,.int .u8 0,.int .u8 0,.int .u8 x6,.int .u8 x7] 171)).alloc (.cells #[.int .u8 130] 5)) (some ⟨w1.heap.size,6,none⟩) 2 [x6,x7]):=row_tail w1 (0) (0) (0) (0) (0) (0) (x6) (x7) 171 (.cells #[.int .u8 130] 5) 6 2 rfl [x6,x7] rfl (fun k=>by match k with | 0=>simpa using b6 | 1=>simpa using b7 | k+2=>simp)
    have hB2:Below w.heap.size w ((w1.alloc (.cells #[.int .u8 0,.int .u8 0,.int .u8 0,.int .u8 0,.int .u8 0,.int .u8 0,.int .u8 x6,.int .u8 x7] 171)).alloc (.cells #[.int .u8 130] 5)):=(hb1.alloc hs1 _).alloc (by simp; omega) _
    have hx6:=h6'
    clear h6' h7 hx6
    have EL:Hid (lenL n = [130,x6,x7]):=el
    clear el
    go_wp2
    refine wp_loop_rounds 9 ?_
    iterate 6 (rw [rounds_succ]; go_wp2)
    rw [rounds_succ]
    go_wp2_with (at_builtin; refine wpList_append_row _ rfl (.tmp 22) (.tmp 24) 26 rfl w.heap.size i0 Tryz.underlying26 hi hz0 hz1 hz2 _ _ _ rfl HO.out.row _ 2 2 [x6,x7] rfl HR.out (by simp) (by omega) (by simp; omega) ?_; intro v3 w3 hv3 hg3)
    obtain ⟨a3,c3,rfl,ho3⟩:=own_appended (xs:=[130]) (ys:=[x6,x7]) hv3 HO.out.byte HR.out.byte
    have hb3:Below w.heap.size w w3:=below_appended hB2 (by simp; omega) HO.out.row hg3
    go_ret
    exact ⟨a3,c3,by rw [EL.out]; rfl,by rw [EL.out]; exact ho3,hb3⟩
   ·have h5':=h5
    have hne:(x5 == 0)=false:=by simp; omega
    have b5:0≤x5∧x5≤255:=by omega
    have b6:0≤x6∧x6≤255:=by omega
    have b7:0≤x7∧x7≤255:=by omega
    have el:lenL n = [131,x5,x6,x7]:=by rw [lenL,if_neg h1,if_neg h2,if_neg h3,h5,h6,h7]
    have HO:Hid (Own w.heap.size ((w1.alloc (.cells #[.int .u8 0,.int .u8 0,.int .u8 0,.int .u8 0,.int .u8 0,.int .u8 x5,.int .u8 x6,.int .u8 x7] 171)).alloc (.cells #[.int .u8 131] 5)) (some ⟨w1.heap.size+1,0,none⟩) 1 1 [131]):=own_one w.heap.size (w1.alloc (.cells #[.int .u8 0,.int .u8 0,.int .u8 0,.int .u8 0,.int .u8 0,.int .u8 x5,.int .u8 x6,.int .u8 x7] 171)) _ (by simp) (by simp; omega) 131 (by decide)
    have HR:Hid (Row ((w1.alloc (.cells #[.int .u8 0,.int .u8 0,.int .u8 0,.int .u8 0,.int .u8 0,.int .u8 x5,.int .u8 x6,.int .u8 x7] 171)).alloc (.cells #[.int .u8 131] 5)) (some ⟨w1.heap.size,5,none⟩) 3 [x5,x6,x7]):=row_tail w1 (0) (0) (0) (0) (0) (x5) (x6) (x7) 171 (.cells #[.int .u8 131] 5) 5 3 rfl [x5,x6,x7] rfl (fun k=>by match k with | 0=>simpa using b5 | 1=>simpa using b6 | 2=>simpa using b7 | k+3=>simp)
    have hB2:Below w.heap.size w ((w1.alloc (.cells #[.int .u8 0,.int .u8 0,.int .u8 0,.int .u8 0,.int .u8 0,.int .u8 x5,.int .u8 x6,.int .u8 x7] 171)).alloc (.cells #[.int .u8 131] 5)):=(hb1.alloc hs1 _).alloc (by simp; omega) _
    clear h5 h5' h6 h7
    have EL:Hid (lenL n = [131,x5,x6,x7]):=el
    clear el
    go_wp2
    refine wp_loop_rounds 9 ?_
    iterate 5 (rw [rounds_succ]; go_wp2)
    rw [rounds_succ]
    go_wp2_with (at_builtin; refine wpList_append_row _ rfl (.tmp 22) (.tmp 24) 26 rfl w.heap.size i0 Tryz.underlying26 hi hz0 hz1 hz2 _ _ _ rfl HO.out.row _ 3 3 [x5,x6,x7] rfl HR.out (by simp) (by omega) (by simp; omega) ?_; intro v3 w3 hv3 hg3)
    obtain ⟨a3,c3,rfl,ho3⟩:=own_appended (xs:=[131]) (ys:=[x5,x6,x7]) hv3 HO.out.byte HR.out.byte
    have hb3:Below w.heap.size w w3:=below_appended hB2 (by simp; omega) HO.out.row hg3
    go_ret
    exact ⟨a3,c3,by rw [EL.out]; rfl,by rw [EL.out]; exact ho3,hb3⟩
open Go.RowKit
def firstOf (cl:Int)(co:Bool):Int:=64 * cl+if co then 32 else 0
def headL (x:It)(n:Nat):List Int:=(if x.tag<31 then [firstOf x.cls x.cons+x.tag] else (firstOf x.cls x.cons+31)::putN x.tag.toNat)++lenL n
theorem lenL_len (n:Nat):(lenL n).length≤4:=by
 unfold lenL
 split
 ·simp
 ·split
  ·simp
  ·split <;> simp
theorem orI8 (a t:Nat)(ha:a<8)(ht:t<32):bits .or .u8 ((32 * a:Nat):Int) (t:Int)=((32 * a+t:Nat):Int):=by
 rw [u8_or_nat (32 * a) t (by omega) (by omega),Nat.two_pow_add_eq_or_of_lt (i:=5) (b:=t) (by omega) a]
theorem or8i (f t:Int)(h0:0≤f)(h1:f<256)(hf:f % 32=0)(ht0:0≤t)(ht:t<32):bits .or .u8 f t=f+t:=by
 have e:=orI8 (f.toNat / 32) t.toNat (by omega) (by omega)
 rw [show ((32 * (f.toNat / 32):Nat):Int)=f by omega,show (t.toNat:Int)=t by omega] at e
 rw [e]
 omega
theorem or8c (cl:Int)(h0:0≤cl)(h1:cl≤3):bits .or .u8 (cl * 64) 32=cl * 64+32:=by
 have hc:cl=0∨cl=1∨cl=2∨cl=3:=by omega
 rcases hc with rfl | rfl | rfl | rfl <;> decide +kernel
theorem step_append_row' {P:Program}{ops:Array Oper}{o:Oper}{a:Act}{w:World}{K:Act→World→Prop}{Q:Exit→Act→World→Prop}{E:Prop}
  (hg:o.guard=none) (s x:Operand) (t:TypeId) (hop:o.op=Op.call { callee:=Callee.builtin Builtin.append,args:=#[s,x],argTypes:=#[t,t] })
  (base:Nat) (i:TypeInfo) (h1:P.underlying t=some (.slice 5)) (h2:P.info? 5=some i) (h3:i.zero=some (.int .u8 0)) (h4:i.size=1) (h5:i.bytes=1)
  (v:Value) (n:Nat) (xs:List Value) (hs:a.eval s=v) (hown:w.ownsRow base 5 1 v n xs)
  (ao:Option Addr) (m c:Nat) (ys:List Int) (hx:a.eval x=.slice ao m c) (hrow:Row w ao m ys) (hnil:ao=none→c=0)
  (b1:n+m≤140737488355328) (b3:base≤w.heap.size)
  (hK:∀ v' w',w'.ownsRow base 5 1 v' (n+m) (xs++ys.map (Value.int .u8))→w.grownBy w' v.ownBlock→K (a.put o.dst v') w') :
  if Region.wanted o (yielded ops a.tmps)=true then Oper.wp P o a w K Q else E:=by
 have hw:Region.wanted o (yielded ops a.tmps)=true:=by simp [Region.wanted,hg]
 rw [if_pos hw]
 cases ao with
 | some ad =>
  obtain ⟨v',w',hrun,r1,r2,_⟩:=run_append_own (P:=P) w base t o.type 5 i (.int .u8 0) 1 1 h1 h2 h3 h4 h5 rfl (by decide) v n xs hown ad m c (ys.map (Value.int .u8)) (by rw [List.length_map,hrow.len,Nat.mul_one]) (row_cells hrow) (ints_oneCell _ _) (by unfold maxLen; omega) (by omega) b3
  unfold Oper.wp
  simp [execOp,hop,resolve,invoke,builtin,hs,hx,hrun,Result.andThen]
  exact hK v' w' r1 r2
 | none =>
  obtain ⟨rfl,rfl⟩:=row_none hrow
  obtain rfl:=hnil rfl
  have hrun:=run_append_owned_none (P:=P) (w:=w) base t o.type 5 i 1 h1 h2 v n xs hown
  unfold Oper.wp
  simp [execOp,hop,resolve,invoke,builtin,hs,hx,hrun,Result.andThen]
  exact hK v w (by simpa using hown) (World.grownBy.refl _ _)
theorem itemHead_any (x:It)(ab:Option Addr)(nb cb:Nat)(ak:Option Addr)(nk ck:Nat)(n:Nat)(w:World)(h1:0≤x.cls∧x.cls≤3)(h2:0≤x.tag∧x.tag≤268435455)(hn:n<16777216) :
  Calls Tryz.prog 107 #[itv x ab nb cb ak nk ck,.int .i64 n] w fun e w'=>∃ a cap,e=.returned (.slice a (headL x n).length cap)∧Own w.heap.size w' a (headL x n).length cap (headL x n)∧Below w.heap.size w w':=by
 obtain ⟨i0,hi,hz0,hz1,hz2⟩:=info_parts Tryz.info5
 obtain ⟨cl,tg,co,bo,ks⟩:=x
 simp only [It.cls,It.tag,itv,It.cons] at h1 h2 ⊢
 obtain ⟨c0,c1⟩:=h1
 obtain ⟨t0,t1⟩:=h2
 have hbl:Below w.heap.size w (w.alloc (.cells #[.int .i64 cl,.int .i64 tg,.bool co,.slice ab nb cb,.slice ak nk ck] 94)):=(Below.refl _ _).alloc (Nat.le_refl _) _
 cases co with
 | true =>
  have hor:=or8c cl c0 c1
  have hfo:firstOf cl true=cl * 64+32:=by simp [firstOf]; omega
  have hbc:(w.alloc (.cells #[.int .i64 cl,.int .i64 tg,.bool true,.slice ab nb cb,.slice ak nk ck] 94)).cell? ⟨w.heap.size,1,none⟩=some (.int .i64 tg):=by rw [cell_of_row _ w.heap.size 1 _ 94 (0,0) (heap_alloc_new w _)]; rfl
  have hbs:(w.alloc (.cells #[.int .i64 cl,.int .i64 tg,.bool true,.slice ab nb cb,.slice ak nk ck] 94)).heap.size=w.heap.size+1:=by simp
  have hkA:∀ o:Obj,((w.alloc (.cells #[.int .i64 cl,.int .i64 tg,.bool true,.slice ab nb cb,.slice ak nk ck] 94)).alloc o).cell? ⟨w.heap.size,1,none⟩=some (.int .i64 tg):=fun o=>(((Below.refl (w.alloc (.cells #[.int .i64 cl,.int .i64 tg,.bool true,.slice ab nb cb,.slice ak nk ck] 94)).heap.size (w.alloc (.cells #[.int .i64 cl,.int .i64 tg,.bool true,.slice ab nb cb,.slice ak nk ck] 94))).alloc (Nat.le_refl _) o).cell (p:=⟨w.heap.size,1,none⟩) (by simp)).trans hbc
  by_cases ht:tg<31
  ·have hft:bits .or .u8 (cl * 64+32) tg=cl * 64+32+tg:=or8i _ _ (by omega) (by omega) (by omega) t0 (by omega)
   have hwt:IntKind.u8.wrap tg=tg:=by rw [IntKind.wrap_u8]; omega
   have el:headL (.mk cl tg true bo ks) n = [cl * 64+32+tg]++lenL n:=by show (if tg<31 then [firstOf cl true+tg] else (firstOf cl true+31)::putN tg.toNat)++lenL n=_; rw [if_pos ht,hfo]
   have EL:Hid (_=_):=el
   clear el hfo
   have HO:∀ W:World,w.heap.size≤W.heap.size→∀ g,W.heap.size=g→Hid (Own w.heap.size (W.alloc (.cells #[.int .u8 (cl * 64+32+tg)] 5)) (some ⟨g,0,none⟩) 1 1 [cl * 64+32+tg]):=fun W h g hg=>own_one w.heap.size W g hg h (cl * 64+32+tg) (by omega)
   go_enter Tryz.func107,Tryz.ntmps107
   go_wp2_with fail
   go_region_held_law (fun w'=>w'.cell? ⟨w.heap.size,1,none⟩=some (.int .i64 tg)) (first | assumption | exact hbc | exact hkA _ | exact hS3 | exact hS3a _ | exact hS5)
    (first
     | (go_at_call 128; refine (lengthBytes_any n _ hn).mono ?_; rintro e w3 ⟨a3,c3,rfl,ho3,hb3⟩; have hS3:w3.cell? ⟨w.heap.size,1,none⟩=some (.int .i64 tg):=(hb3.cell (p:=⟨w.heap.size,1,none⟩) (by simp <;> omega)).trans (by first | exact hbc | exact hkA _); have hS3a:∀ o:Obj,(w3.alloc o).cell? ⟨w.heap.size,1,none⟩=some (.int .i64 tg):=fun o=>(((Below.refl w3.heap.size w3).alloc (Nat.le_refl _) o).cell (p:=⟨w.heap.size,1,none⟩) (by have:=hb3.size; simp at this; show w.heap.size<_; omega)).trans hS3)
     | (have hOb:=((HO (w.alloc (.cells #[.int .i64 cl,.int .i64 tg,.bool true,.slice ab nb cb,.slice ak nk ck] 94)) (by simp) (w.heap.size+1) (by simp)).out.drew.kept hb3); have hBb:Below w.heap.size w w3:=((hbl.alloc (by simp) _).drew).trans (hb3.mono (by simp <;> omega)); refine step_append_row' rfl (.tmp 23) (.tmp 25) 26 rfl w.heap.size i0 Tryz.underlying26 hi hz0 hz1 hz2 _ _ _ rfl hOb.row a3 _ c3 (lenL n) rfl ho3.toRow ho3.nil (by have:=lenL_len n; omega) hBb.size ?_; intro v5 w5 hv5 hg5; obtain ⟨a5,c5,rfl,ho5⟩:=own_appended (xs:=[cl * 64+32+tg]) (ys:=lenL n) hv5 hOb.byte ho3.byte; have hB5:Below w.heap.size w w5:=below_appended hBb hBb.size hOb.row hg5; have hS5:w5.cell? ⟨w.heap.size,1,none⟩=some (.int .i64 tg):=(hg5.cell_far ⟨w.heap.size,1,none⟩ (by have:=hb3.size; simp at this; show w.heap.size<_; omega) (by show some w.heap.size≠some (w.heap.size+1); simp)).trans hS3)
     | (have hOb:=(HO w3 (by have:=hb3.size; simp at this; omega) w3.heap.size rfl).out; have hBb:Below w.heap.size w (w3.alloc (.cells #[.int .u8 (cl * 64+32+tg)] 5)):=(hbl.drew.trans (hb3.mono (by simp))).alloc (by have:=hb3.size; simp at this; omega) _; have hor3:=ho3.toRow.kept ((Below.refl w3.heap.size w3).alloc (Nat.le_refl _) (.cells #[.int .u8 (cl * 64+32+tg)] 5)); refine step_append_row' rfl (.tmp 23) (.tmp 25) 26 rfl w.heap.size i0 Tryz.underlying26 hi hz0 hz1 hz2 _ _ _ rfl hOb.row a3 _ c3 (lenL n) rfl hor3 ho3.nil (by have:=lenL_len n; omega) hBb.size ?_; intro v5 w5 hv5 hg5; obtain ⟨a5,c5,rfl,ho5⟩:=own_appended (xs:=[cl * 64+32+tg]) (ys:=lenL n) hv5 hOb.byte ho3.byte; have hB5:Below w.heap.size w w5:=below_appended hBb hBb.size hOb.row hg5; have hS5:w5.cell? ⟨w.heap.size,1,none⟩=some (.int .i64 tg):=(hg5.cell_far ⟨w.heap.size,1,none⟩ (by have:=hb3.size; simp at this; simp; omega) (by have:=hb3.size; simp at this; show some w.heap.size≠some w3.heap.size; simp; omega)).trans (hS3a _)))
   all_goals (
    have HL:Hid (([cl * 64+32+tg]++lenL n).length=1+(lenL n).length):=by show _=_; rw [List.length_append]; rfl
    go_wp2
    go_ret
    exact ⟨a5,c5,by rw [EL.out,HL.out,Nat.add_comm 1]; simp [Array.getD],by rw [EL.out,HL.out]; exact ho5,hB5⟩)
  ·have hf31:bits .or .u8 (cl * 64+32) 31=cl * 64+32+31:=or8i _ _ (by omega) (by omega) (by omega) (by decide) (by decide)
   have el:headL (.mk cl tg true bo ks) n = [cl * 64+32+31]++putN tg.toNat++lenL n:=by show (if tg<31 then [firstOf cl true+tg] else (firstOf cl true+31)::putN tg.toNat)++lenL n=_; rw [if_neg ht,hfo]; rfl
   have EL:Hid (_=_):=el
   clear el hfo
   have HO:=own_one w.heap.size (w.alloc (.cells #[.int .i64 cl,.int .i64 tg,.bool true,.slice ab nb cb,.slice ak nk ck] 94)) (w.heap.size+1) (by simp) (by simp) (cl * 64+32+31) (by omega)
   have hB2:Below w.heap.size w ((w.alloc (.cells #[.int .i64 cl,.int .i64 tg,.bool true,.slice ab nb cb,.slice ak nk ck] 94)).alloc (.cells #[.int .u8 (cl * 64+32+31)] 5)):=hbl.alloc (by simp) _
   have HO2:Hid (Own w.heap.size ((w.alloc (.cells #[.int .i64 cl,.int .i64 tg,.bool true,.slice ab nb cb,.slice ak nk ck] 94)).alloc (.cells #[.int .u8 (cl * 64+32+31)] 5)) (some ⟨w.heap.size+1,0,none⟩) 1 1 [cl * 64+32+31]):=HO
   have hpu:putI tg=putN tg.toNat:=by rw [putI,if_neg (by omega)]
   have HPU:Hid (putI tg=putN tg.toNat):=hpu
   have hpl:(putN tg.toNat).length≤9:=by rw [putN,putL_len]; exact cnt_le _ (by omega)
   obtain ⟨m0,hm0⟩:∃ m0,m0=(putN tg.toNat).length:=⟨_,rfl⟩
   rw [← hm0] at hpl
   have HM:Hid (m0=(putN tg.toNat).length):=hm0
   clear HO hpu hm0
   go_enter Tryz.func107,Tryz.ntmps107
   go_wp2_with fail
   refine (implPutNum_any tg _ (by omega)).mono ?_
   rintro e w3 ⟨a3,c3,rfl,ho3,hb3⟩
   rw [HPU.out,← HM.out] at ho3 ⊢
   have hO3:=HO2.out.kept hb3
   have hB3:Below w.heap.size w w3:=hB2.trans (hb3.mono hB2.size)
   have hs3:=hB3.size
   go_wp2_with (at_builtin; refine wpList_append_row _ rfl (.tmp 29) (.tmp 32) 26 rfl w.heap.size i0 Tryz.underlying26 hi hz0 hz1 hz2 _ _ _ rfl hO3.row a3 m0 c3 (putN tg.toNat) rfl ho3.toRow ho3.nil (by omega) hs3 ?_; intro v4 w4 hv4 hg4; obtain ⟨a4,c4,rfl,ho4⟩:=own_appended (xs:=[cl * 64+32+31]) (ys:=putN tg.toNat) hv4 hO3.byte ho3.byte; have hB4:Below w.heap.size w w4:=below_appended hB3 hs3 hO3.row hg4)
   refine (lengthBytes_any n _ hn).mono ?_
   rintro e w5 ⟨a5,c5,rfl,ho5,hb5⟩
   have hO5:=ho4.kept hb5
   have hB5:Below w.heap.size w w5:=hB4.trans (hb5.mono hB4.size)
   have hs5:=hB5.size
   have hll:=lenL_len n
   go_wp2_with (at_builtin; refine wpList_append_row _ rfl (.tmp 34) (.tmp 36) 26 rfl w.heap.size i0 Tryz.underlying26 hi hz0 hz1 hz2 _ _ _ rfl hO5.row a5 _ c5 (lenL n) rfl ho5.toRow ho5.nil (by omega) hs5 ?_; intro v6 w6 hv6 hg6)
   obtain ⟨a6,c6,rfl,ho6⟩:=own_appended (xs:=[cl * 64+32+31]++putN tg.toNat) (ys:=lenL n) hv6 hO5.byte ho5.byte
   have hB6:Below w.heap.size w w6:=below_appended hB5 hs5 hO5.row hg6
   have HL:Hid (([cl * 64+32+31]++putN tg.toNat++lenL n).length=1+m0+(lenL n).length):=by show _=_; rw [List.length_append,List.length_append,HM.out]; rfl
   go_ret
   exact ⟨a6,c6,by rw [EL.out,HL.out]; rfl,by rw [EL.out,HL.out]; exact ho6,hB6⟩
 | false =>
  have hfo:firstOf cl false=cl * 64:=by simp [firstOf]; omega
  have hbc:(w.alloc (.cells #[.int .i64 cl,.int .i64 tg,.bool false,.slice ab nb cb,.slice ak nk ck] 94)).cell? ⟨w.heap.size,1,none⟩=some (.int .i64 tg):=by rw [cell_of_row _ w.heap.size 1 _ 94 (0,0) (heap_alloc_new w _)]; rfl
  have hbs:(w.alloc (.cells #[.int .i64 cl,.int .i64 tg,.bool false,.slice ab nb cb,.slice ak nk ck] 94)).heap.size=w.heap.size+1:=by simp
  have hkA:∀ o:Obj,((w.alloc (.cells #[.int .i64 cl,.int .i64 tg,.bool false,.slice ab nb cb,.slice ak nk ck] 94)).alloc o).cell? ⟨w.heap.size,1,none⟩=some (.int .i64 tg):=fun o=>(((Below.refl (w.alloc (.cells #[.int .i64 cl,.int .i64 tg,.bool false,.slice ab nb cb,.slice ak nk ck] 94)).heap.size (w.alloc (.cells #[.int .i64 cl,.int .i64 tg,.bool false,.slice ab nb cb,.slice ak nk ck] 94))).alloc (Nat.le_refl _) o).cell (p:=⟨w.heap.size,1,none⟩) (by simp)).trans hbc
  by_cases ht:tg<31
  ·have hft:bits .or .u8 (cl * 64) tg=cl * 64+tg:=or8i _ _ (by omega) (by omega) (by omega) t0 (by omega)
   have hwt:IntKind.u8.wrap tg=tg:=by rw [IntKind.wrap_u8]; omega
   have el:headL (.mk cl tg false bo ks) n = [cl * 64+tg]++lenL n:=by show (if tg<31 then [firstOf cl false+tg] else (firstOf cl false+31)::putN tg.toNat)++lenL n=_; rw [if_pos ht,hfo]
   have EL:Hid (_=_):=el
   clear el hfo
   have HO:∀ W:World,w.heap.size≤W.heap.size→∀ g,W.heap.size=g→Hid (Own w.heap.size (W.alloc (.cells #[.int .u8 (cl * 64+tg)] 5)) (some ⟨g,0,none⟩) 1 1 [cl * 64+tg]):=fun W h g hg=>own_one w.heap.size W g hg h (cl * 64+tg) (by omega)
   go_enter Tryz.func107,Tryz.ntmps107
   go_wp2_with fail
   go_region_held_law (fun w'=>w'.cell? ⟨w.heap.size,1,none⟩=some (.int .i64 tg)) (first | assumption | exact hbc | exact hkA _ | exact hS3 | exact hS3a _ | exact hS5)
    (first
     | (go_at_call 128; refine (lengthBytes_any n _ hn).mono ?_; rintro e w3 ⟨a3,c3,rfl,ho3,hb3⟩; have hS3:w3.cell? ⟨w.heap.size,1,none⟩=some (.int .i64 tg):=(hb3.cell (p:=⟨w.heap.size,1,none⟩) (by simp <;> omega)).trans (by first | exact hbc | exact hkA _); have hS3a:∀ o:Obj,(w3.alloc o).cell? ⟨w.heap.size,1,none⟩=some (.int .i64 tg):=fun o=>(((Below.refl w3.heap.size w3).alloc (Nat.le_refl _) o).cell (p:=⟨w.heap.size,1,none⟩) (by have:=hb3.size; simp at this; show w.heap.size<_; omega)).trans hS3)
     | (have hOb:=((HO (w.alloc (.cells #[.int .i64 cl,.int .i64 tg,.bool false,.slice ab nb cb,.slice ak nk ck] 94)) (by simp) (w.heap.size+1) (by simp)).out.drew.kept hb3); have hBb:Below w.heap.size w w3:=((hbl.alloc (by simp) _).drew).trans (hb3.mono (by simp <;> omega)); refine step_append_row' rfl (.tmp 23) (.tmp 25) 26 rfl w.heap.size i0 Tryz.underlying26 hi hz0 hz1 hz2 _ _ _ rfl hOb.row a3 _ c3 (lenL n) rfl ho3.toRow ho3.nil (by have:=lenL_len n; omega) hBb.size ?_; intro v5 w5 hv5 hg5; obtain ⟨a5,c5,rfl,ho5⟩:=own_appended (xs:=[cl * 64+tg]) (ys:=lenL n) hv5 hOb.byte ho3.byte; have hB5:Below w.heap.size w w5:=below_appended hBb hBb.size hOb.row hg5; have hS5:w5.cell? ⟨w.heap.size,1,none⟩=some (.int .i64 tg):=(hg5.cell_far ⟨w.heap.size,1,none⟩ (by have:=hb3.size; simp at this; show w.heap.size<_; omega) (by show some w.heap.size≠some (w.heap.size+1); simp)).trans hS3)
     | (have hOb:=(HO w3 (by have:=hb3.size; simp at this; omega) w3.heap.size rfl).out; have hBb:Below w.heap.size w (w3.alloc (.cells #[.int .u8 (cl * 64+tg)] 5)):=(hbl.drew.trans (hb3.mono (by simp))).alloc (by have:=hb3.size; simp at this; omega) _; have hor3:=ho3.toRow.kept ((Below.refl w3.heap.size w3).alloc (Nat.le_refl _) (.cells #[.int .u8 (cl * 64+tg)] 5)); refine step_append_row' rfl (.tmp 23) (.tmp 25) 26 rfl w.heap.size i0 Tryz.underlying26 hi hz0 hz1 hz2 _ _ _ rfl hOb.row a3 _ c3 (lenL n) rfl hor3 ho3.nil (by have:=lenL_len n; omega) hBb.size ?_; intro v5 w5 hv5 hg5; obtain ⟨a5,c5,rfl,ho5⟩:=own_appended (xs:=[cl * 64+tg]) (ys:=lenL n) hv5 hOb.byte ho3.byte; have hB5:Below w.heap.size w w5:=below_appended hBb hBb.size hOb.row hg5; have hS5:w5.cell? ⟨w.heap.size,1,none⟩=some (.int .i64 tg):=(hg5.cell_far ⟨w.heap.size,1,none⟩ (by have:=hb3.size; simp at this; simp; omega) (by have:=hb3.size; simp at this; show some w.heap.size≠some w3.heap.size; simp; omega)).trans (hS3a _)))
   all_goals (
    have HL:Hid (([cl * 64+tg]++lenL n).length=1+(lenL n).length):=by show _=_; rw [List.length_append]; rfl
    go_wp2
    go_ret
    exact ⟨a5,c5,by rw [EL.out,HL.out,Nat.add_comm 1]; simp [Array.getD],by rw [EL.out,HL.out]; exact ho5,hB5⟩)
  ·have hf31:bits .or .u8 (cl * 64) 31=cl * 64+31:=or8i _ _ (by omega) (by omega) (by omega) (by decide) (by decide)
   have el:headL (.mk cl tg false bo ks) n = [cl * 64+31]++putN tg.toNat++lenL n:=by show (if tg<31 then [firstOf cl false+tg] else (firstOf cl false+31)::putN tg.toNat)++lenL n=_; rw [if_neg ht,hfo]; rfl
   have EL:Hid (_=_):=el
   clear el hfo
   have HO:=own_one w.heap.size (w.alloc (.cells #[.int .i64 cl,.int .i64 tg,.bool false,.slice ab nb cb,.slice ak nk ck] 94)) (w.heap.size+1) (by simp) (by simp) (cl * 64+31) (by omega)
   have hB2:Below w.heap.size w ((w.alloc (.cells #[.int .i64 cl,.int .i64 tg,.bool false,.slice ab nb cb,.slice ak nk ck] 94)).alloc (.cells #[.int .u8 (cl * 64+31)] 5)):=hbl.alloc (by simp) _
   have HO2:Hid (Own w.heap.size ((w.alloc (.cells #[.int .i64 cl,.int .i64 tg,.bool false,.slice ab nb cb,.slice ak nk ck] 94)).alloc (.cells #[.int .u8 (cl * 64+31)] 5)) (some ⟨w.heap.size+1,0,none⟩) 1 1 [cl * 64+31]):=HO
   have hpu:putI tg=putN tg.toNat:=by rw [putI,if_neg (by omega)]
   have HPU:Hid (putI tg=putN tg.toNat):=hpu
   have hpl:(putN tg.toNat).length≤9:=by rw [putN,putL_len]; exact cnt_le _ (by omega)
   obtain ⟨m0,hm0⟩:∃ m0,m0=(putN tg.toNat).length:=⟨_,rfl⟩
   rw [← hm0] at hpl
   have HM:Hid (m0=(putN tg.toNat).length):=hm0
   clear HO hpu hm0
   go_enter Tryz.func107,Tryz.ntmps107
   go_wp2_with fail
   refine (implPutNum_any tg _ (by omega)).mono ?_
   rintro e w3 ⟨a3,c3,rfl,ho3,hb3⟩
   rw [HPU.out,← HM.out] at ho3 ⊢
   have hO3:=HO2.out.kept hb3
   have hB3:Below w.heap.size w w3:=hB2.trans (hb3.mono hB2.size)
   have hs3:=hB3.size
   go_wp2_with (at_builtin; refine wpList_append_row _ rfl (.tmp 29) (.tmp 32) 26 rfl w.heap.size i0 Tryz.underlying26 hi hz0 hz1 hz2 _ _ _ rfl hO3.row a3 m0 c3 (putN tg.toNat) rfl ho3.toRow ho3.nil (by omega) hs3 ?_; intro v4 w4 hv4 hg4; obtain ⟨a4,c4,rfl,ho4⟩:=own_appended (xs:=[cl * 64+31]) (ys:=putN tg.toNat) hv4 hO3.byte ho3.byte; have hB4:Below w.heap.size w w4:=below_appended hB3 hs3 hO3.row hg4)
   refine (lengthBytes_any n _ hn).mono ?_
   rintro e w5 ⟨a5,c5,rfl,ho5,hb5⟩
   have hO5:=ho4.kept hb5
   have hB5:Below w.heap.size w w5:=hB4.trans (hb5.mono hB4.size)
   have hs5:=hB5.size
   have hll:=lenL_len n
   go_wp2_with (at_builtin; refine wpList_append_row _ rfl (.tmp 34) (.tmp 36) 26 rfl w.heap.size i0 Tryz.underlying26 hi hz0 hz1 hz2 _ _ _ rfl hO5.row a5 _ c5 (lenL n) rfl ho5.toRow ho5.nil (by omega) hs5 ?_; intro v6 w6 hv6 hg6)
   obtain ⟨a6,c6,rfl,ho6⟩:=own_appended (xs:=[cl * 64+31]++putN tg.toNat) (ys:=lenL n) hv6 hO5.byte ho5.byte
   have hB6:Below w.heap.size w w6:=below_appended hB5 hs5 hO5.row hg6
   have HL:Hid (([cl * 64+31]++putN tg.toNat++lenL n).length=1+m0+(lenL n).length):=by show _=_; rw [List.length_append,List.length_append,HM.out]; rfl
   go_ret
   exact ⟨a6,c6,by rw [EL.out,HL.out]; rfl,by rw [EL.out,HL.out]; exact ho6,hB6⟩
def encK (f:It→Option (List Int)):List Int→List It→Option (List Int)
 | acc,[]=>some acc
 | acc,x::xs=>match f x with
  | none=>none
  | some p=>if acc.length+p.length≤50000 then encK f (acc++p) xs else none
def innerBy (f:It→Option (List Int))(x:It):Option (List Int):=if x.cons then encK f [] x.kids else if x.body.length≤50000 then some x.body else none
def enc:Nat→It→Option (List Int)
 | 0,_=>none
 | r+1,x=>if x.shape then
   match innerBy (enc r) x with
   | none=>none
   | some inner=>if (headL x inner.length++inner).length≤50000 then some (headL x inner.length++inner) else none
  else none
theorem enc_len (r:Nat)(x:It)(l:List Int)(h:enc r x=some l):l.length≤50000:=by
 cases r with
 | zero=>simp [enc] at h
 | succ r =>
  simp only [enc] at h
  split at h
  ·split at h
   ·cases h
   ·split at h
    ·simp at h; subst h; assumption
    ·cases h
  ·cases h
theorem drop_get (xs:List It)(k:Nat)(h:k<xs.length):xs.drop k=xs.getD k default::xs.drop (k+1):=by
 rw [List.drop_eq_getElem_cons h]
 simp [h]
theorem encK_end (f:It→Option (List Int))(xs:List It)(k:Nat)(h:xs.length≤k)(acc:List Int):encK f acc (xs.drop k)=some acc:=by
 rw [List.drop_eq_nil_of_le h,encK]
theorem shape_bounds {x:It}(h:x.shape=true):(0≤x.cls∧x.cls≤3)∧0≤x.tag∧x.tag≤268435455:=by
 unfold It.shape at h
 simp only [Bool.and_eq_true,decide_eq_true_eq] at h
 omega
theorem Own.alloc {B:Nat}{w:World}{a:Option Addr}{n cap:Nat}{bs:List Int}(h:Own B w a n cap bs)(o:Obj):Own B (w.alloc o) a n cap bs:=⟨h.row.alloc o,h.byte⟩
theorem headL_len (x:It)(n:Nat)(h:0≤x.tag∧x.tag≤268435455):(headL x n).length≤14:=by
 unfold headL
 have:=lenL_len n
 rw [List.length_append]
 split
 ·simp; omega
 ·have hpl:(putN x.tag.toNat).length≤9:=by rw [putN,putL_len]; exact cnt_le _ (by omega)
  simp; omega
theorem enc_none (r:Nat)(x:It)(hs:x.shape=true)(h:innerBy (enc r) x=none):enc (r+1) x=none:=by
 simp [enc,hs,h]
theorem enc_long (r:Nat)(x:It)(inner:List Int)(hs:x.shape=true)(h:innerBy (enc r) x=some inner)(hl:¬ (headL x inner.length++inner).length≤50000):enc (r+1) x=none:=by
 simp only [enc,hs,h,if_true,if_neg hl]
theorem enc_some (r:Nat)(x:It)(inner:List Int)(hs:x.shape=true)(h:innerBy (enc r) x=some inner)(hl:(headL x inner.length++inner).length≤50000):enc (r+1) x=some (headL x inner.length++inner):=by
 simp only [enc,hs,h,if_true,if_pos hl]
theorem enc_shape (r:Nat)(x:It)(hs:x.shape=false):enc (r+1) x=none:=by
 simp [enc,hs]
end Go.Proofs.YtnmplldhdfingaaGreatDoor
