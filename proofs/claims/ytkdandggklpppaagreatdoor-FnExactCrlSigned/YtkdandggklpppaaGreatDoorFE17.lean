import Derived.Deep.AppendLies
import Derived.Test.YtkdandggklpppaaGreatDoorFE12
set_option maxRecDepth 10000
set_option maxHeartbeats 8000000
set_option linter.unusedVariables false
namespace Go.Proofs.YtkdandggklpppaaGreatDoor
open Go.RowKit
def firstOf (cl:Int)(co:Bool):Int:=64 * cl+if co then 32 else 0
def headL (x:It)(n:Nat):List Int:=(if x.tag<31 then [firstOf x.cls x.cons+x.tag] else (firstOf x.cls x.cons+31)::putN x.tag.toNat)++lenL n
theorem lenL_len (n:Nat):(lenL n).length≤4:=by
 unfold lenL
 split
 ·simp
 ·split
  ·simp
  ·split <;> simp
theorem orI8 (a t:Nat)(ha:a<8)(ht:t<32):bits .or .u8 ((32 * a:Nat):Int) (t:Int)=((32 * a+t:Nat):Int):=by
 rw [u8_or_nat (32 * a) t (by omega) (by omega),Nat.two_pow_add_eq_or_of_lt (i:=5) (b:=t) (by omega) a]
theorem or8i (f t:Int)(h0:0≤f)(h1:f<256)(hf:f % 32=0)(ht0:0≤t)(ht:t<32):bits .or .u8 f t=f+t:=by
 have e:=orI8 (f.toNat / 32) t.toNat (by omega) (by omega)
 rw [show ((32 * (f.toNat / 32):Nat):Int)=f by omega,show (t.toNat:Int)=t by omega] at e
 rw [e]
 omega
theorem or8c (cl:Int)(h0:0≤cl)(h1:cl≤3):bits .or .u8 (cl * 64) 32=cl * 64+32:=by
 have hc:cl=0∨cl=1∨cl=2∨cl=3:=by omega
 rcases hc with rfl | rfl | rfl | rfl <;> decide +kernel
theorem step_append_row' {P:Program}{ops:Array Oper}{o:Oper}{a:Act}{w:World}{K:Act→World→Prop}{Q:Exit→Act→World→Prop}{E:Prop}
  (hg:o.guard=none) (s x:Operand) (t:TypeId) (hop:o.op=Op.call { callee:=Callee.builtin Builtin.append,args:=#[s,x],argTypes:=#[t,t] })
  (base:Nat) (i:TypeInfo) (h1:P.underlying t=some (.slice 5)) (h2:P.info? 5=some i) (h3:i.zero=some (.int .u8 0)) (h4:i.size=1) (h5:i.bytes=1)
  (v:Value) (n:Nat) (xs:List Value) (hs:a.eval s=v) (hown:w.ownsRow base 5 1 v n xs)
  (ao:Option Addr) (m c:Nat) (ys:List Int) (hx:a.eval x=.slice ao m c) (hrow:Row w ao m ys) (hnil:ao=none→c=0)
  (b1:n+m≤140737488355328) (b3:base≤w.heap.size)
  (hK:∀ v' w',w'.ownsRow base 5 1 v' (n+m) (xs++ys.map (Value.int .u8))→w.grownBy w' v.ownBlock→K (a.put o.dst v') w') :
  if Region.wanted o (yielded ops a.tmps)=true then Oper.wp P o a w K Q else E:=by
 have hw:Region.wanted o (yielded ops a.tmps)=true:=by simp [Region.wanted,hg]
 rw [if_pos hw]
 cases ao with
 | some ad =>
  obtain ⟨v',w',hrun,r1,r2,_⟩:=run_append_own (P:=P) w base t o.type 5 i (.int .u8 0) 1 1 h1 h2 h3 h4 h5 rfl (by decide) v n xs hown ad m c (ys.map (Value.int .u8)) (by rw [List.length_map,hrow.len,Nat.mul_one]) (row_cells hrow) (ints_oneCell _ _) (by unfold maxLen; omega) (by omega) b3
  unfold Oper.wp
  simp [execOp,hop,resolve,invoke,builtin,hs,hx,hrun,Result.andThen]
  exact hK v' w' r1 r2
 | none =>
  obtain ⟨rfl,rfl⟩:=row_none hrow
  obtain rfl:=hnil rfl
  have hrun:=run_append_owned_none (P:=P) (w:=w) base t o.type 5 i 1 h1 h2 v n xs hown
  unfold Oper.wp
  simp [execOp,hop,resolve,invoke,builtin,hs,hx,hrun,Result.andThen]
  exact hK v w (by simpa using hown) (World.grownBy.refl _ _)
theorem itemHead_any (x:It)(ab:Option Addr)(nb cb:Nat)(ak:Option Addr)(nk ck:Nat)(n:Nat)(w:World)(h1:0≤x.cls∧x.cls≤3)(h2:0≤x.tag∧x.tag≤268435455)(hn:n<16777216) :
  Calls Tryz.prog 83 #[itv x ab nb cb ak nk ck,.int .i64 n] w fun e w'=>∃ a cap,e=.returned (.slice a (headL x n).length cap)∧Own w.heap.size w' a (headL x n).length cap (headL x n)∧Below w.heap.size w w':=by
 obtain ⟨i0,hi,hz0,hz1,hz2⟩:=info_parts Tryz.info5
 obtain ⟨cl,tg,co,bo,ks⟩:=x
 simp only [It.cls,It.tag,itv,It.cons] at h1 h2 ⊢
 obtain ⟨c0,c1⟩:=h1
 obtain ⟨t0,t1⟩:=h2
 have hbl:Below w.heap.size w (w.alloc (.cells #[.int .i64 cl,.int .i64 tg,.bool co,.slice ab nb cb,.slice ak nk ck] 81)):=(Below.refl _ _).alloc (Nat.le_refl _) _
 cases co with
 | true =>
  have hor:=or8c cl c0 c1
  have hfo:firstOf cl true=cl * 64+32:=by simp [firstOf]; omega
  have hbc:(w.alloc (.cells #[.int .i64 cl,.int .i64 tg,.bool true,.slice ab nb cb,.slice ak nk ck] 81)).cell? ⟨w.heap.size,1,none⟩=some (.int .i64 tg):=by rw [cell_of_row _ w.heap.size 1 _ 81 (0,0) (heap_alloc_new w _)]; rfl
  have hbs:(w.alloc (.cells #[.int .i64 cl,.int .i64 tg,.bool true,.slice ab nb cb,.slice ak nk ck] 81)).heap.size=w.heap.size+1:=by simp
  have hkA:∀ o:Obj,((w.alloc (.cells #[.int .i64 cl,.int .i64 tg,.bool true,.slice ab nb cb,.slice ak nk ck] 81)).alloc o).cell? ⟨w.heap.size,1,none⟩=some (.int .i64 tg):=fun o=>(((Below.refl (w.alloc (.cells #[.int .i64 cl,.int .i64 tg,.bool true,.slice ab nb cb,.slice ak nk ck] 81)).heap.size (w.alloc (.cells #[.int .i64 cl,.int .i64 tg,.bool true,.slice ab nb cb,.slice ak nk ck] 81))).alloc (Nat.le_refl _) o).cell (p:=⟨w.heap.size,1,none⟩) (by simp)).trans hbc
  by_cases ht:tg<31
  ·have hft:bits .or .u8 (cl * 64+32) tg=cl * 64+32+tg:=or8i _ _ (by omega) (by omega) (by omega) t0 (by omega)
   have hwt:IntKind.u8.wrap tg=tg:=by rw [IntKind.wrap_u8]; omega
   have el:headL (.mk cl tg true bo ks) n = [cl * 64+32+tg]++lenL n:=by show (if tg<31 then [firstOf cl true+tg] else (firstOf cl true+31)::putN tg.toNat)++lenL n=_; rw [if_pos ht,hfo]
   have EL:Hid (_=_):=el
   clear el hfo
   have HO:∀ W:World,w.heap.size≤W.heap.size→∀ g,W.heap.size=g→Hid (Own w.heap.size (W.alloc (.cells #[.int .u8 (cl * 64+32+tg)] 5)) (some ⟨g,0,none⟩) 1 1 [cl * 64+32+tg]):=fun W h g hg=>own_one w.heap.size W g hg h (cl * 64+32+tg) (by omega)
   go_enter Tryz.func83,Tryz.ntmps83
   go_wp2_with fail
   go_region_held_law (fun w'=>w'.cell? ⟨w.heap.size,1,none⟩=some (.int .i64 tg)) (first | assumption | exact hbc | exact hkA _ | exact hS3 | exact hS3a _ | exact hS5)
    (first
     | (go_at_call 103; refine (lengthBytes_any n _ hn).mono ?_; rintro e w3 ⟨a3,c3,rfl,ho3,hb3⟩; have hS3:w3.cell? ⟨w.heap.size,1,none⟩=some (.int .i64 tg):=(hb3.cell (p:=⟨w.heap.size,1,none⟩) (by simp <;> omega)).trans (by first | exact hbc | exact hkA _); have hS3a:∀ o:Obj,(w3.alloc o).cell? ⟨w.heap.size,1,none⟩=some (.int .i64 tg):=fun o=>(((Below.refl w3.heap.size w3).alloc (Nat.le_refl _) o).cell (p:=⟨w.heap.size,1,none⟩) (by have:=hb3.size; simp at this; show w.heap.size<_; omega)).trans hS3)
     | (have hOb:=((HO (w.alloc (.cells #[.int .i64 cl,.int .i64 tg,.bool true,.slice ab nb cb,.slice ak nk ck] 81)) (by simp) (w.heap.size+1) (by simp)).out.drew.kept hb3); have hBb:Below w.heap.size w w3:=((hbl.alloc (by simp) _).drew).trans (hb3.mono (by simp <;> omega)); refine step_append_row' rfl (.tmp 23) (.tmp 25) 26 rfl w.heap.size i0 Tryz.underlying26 hi hz0 hz1 hz2 _ _ _ rfl hOb.row a3 _ c3 (lenL n) rfl ho3.toRow ho3.nil (by have:=lenL_len n; omega) hBb.size ?_; intro v5 w5 hv5 hg5; obtain ⟨a5,c5,rfl,ho5⟩:=own_appended (xs:=[cl * 64+32+tg]) (ys:=lenL n) hv5 hOb.byte ho3.byte; have hB5:Below w.heap.size w w5:=below_appended hBb hBb.size hOb.row hg5; have hS5:w5.cell? ⟨w.heap.size,1,none⟩=some (.int .i64 tg):=(hg5.cell_far ⟨w.heap.size,1,none⟩ (by have:=hb3.size; simp at this; show w.heap.size<_; omega) (by show some w.heap.size≠some (w.heap.size+1); simp)).trans hS3)
     | (have hOb:=(HO w3 (by have:=hb3.size; simp at this; omega) w3.heap.size rfl).out; have hBb:Below w.heap.size w (w3.alloc (.cells #[.int .u8 (cl * 64+32+tg)] 5)):=(hbl.drew.trans (hb3.mono (by simp))).alloc (by have:=hb3.size; simp at this; omega) _; have hor3:=ho3.toRow.kept ((Below.refl w3.heap.size w3).alloc (Nat.le_refl _) (.cells #[.int .u8 (cl * 64+32+tg)] 5)); refine step_append_row' rfl (.tmp 23) (.tmp 25) 26 rfl w.heap.size i0 Tryz.underlying26 hi hz0 hz1 hz2 _ _ _ rfl hOb.row a3 _ c3 (lenL n) rfl hor3 ho3.nil (by have:=lenL_len n; omega) hBb.size ?_; intro v5 w5 hv5 hg5; obtain ⟨a5,c5,rfl,ho5⟩:=own_appended (xs:=[cl * 64+32+tg]) (ys:=lenL n) hv5 hOb.byte ho3.byte; have hB5:Below w.heap.size w w5:=below_appended hBb hBb.size hOb.row hg5; have hS5:w5.cell? ⟨w.heap.size,1,none⟩=some (.int .i64 tg):=(hg5.cell_far ⟨w.heap.size,1,none⟩ (by have:=hb3.size; simp at this; simp; omega) (by have:=hb3.size; simp at this; show some w.heap.size≠some w3.heap.size; simp; omega)).trans (hS3a _)))
   all_goals (
    have HL:Hid (([cl * 64+32+tg]++lenL n).length=1+(lenL n).length):=by show _=_; rw [List.length_append]; rfl
    go_wp2
    go_ret
    exact ⟨a5,c5,by rw [EL.out,HL.out,Nat.add_comm 1]; simp [Array.getD],by rw [EL.out,HL.out]; exact ho5,hB5⟩)
  ·have hf31:bits .or .u8 (cl * 64+32) 31=cl * 64+32+31:=or8i _ _ (by omega) (by omega) (by omega) (by decide) (by decide)
   have el:headL (.mk cl tg true bo ks) n = [cl * 64+32+31]++putN tg.toNat++lenL n:=by show (if tg<31 then [firstOf cl true+tg] else (firstOf cl true+31)::putN tg.toNat)++lenL n=_; rw [if_neg ht,hfo]; rfl
   have EL:Hid (_=_):=el
   clear el hfo
   have HO:=own_one w.heap.size (w.alloc (.cells #[.int .i64 cl,.int .i64 tg,.bool true,.slice ab nb cb,.slice ak nk ck] 81)) (w.heap.size+1) (by simp) (by simp) (cl * 64+32+31) (by omega)
   have hB2:Below w.heap.size w ((w.alloc (.cells #[.int .i64 cl,.int .i64 tg,.bool true,.slice ab nb cb,.slice ak nk ck] 81)).alloc (.cells #[.int .u8 (cl * 64+32+31)] 5)):=hbl.alloc (by simp) _
   have HO2:Hid (Own w.heap.size ((w.alloc (.cells #[.int .i64 cl,.int .i64 tg,.bool true,.slice ab nb cb,.slice ak nk ck] 81)).alloc (.cells #[.int .u8 (cl * 64+32+31)] 5)) (some ⟨w.heap.size+1,0,none⟩) 1 1 [cl * 64+32+31]):=HO
   have hpu:putI tg=putN tg.toNat:=by rw [putI,if_neg (by omega)]
   have HPU:Hid (putI tg=putN tg.toNat):=hpu
   have hpl:(putN tg.toNat).length≤9:=by rw [putN,putL_len]; exact cnt_le _ (by omega)
   obtain ⟨m0,hm0⟩:∃ m0,m0=(putN tg.toNat).length:=⟨_,rfl⟩
   rw [← hm0] at hpl
   have HM:Hid (m0=(putN tg.toNat).length):=hm0
   clear HO hpu hm0
   go_enter Tryz.func83,Tryz.ntmps83
   go_wp2_with fail
   refine (implPutNum_any tg _ (by omega)).mono ?_
   rintro e w3 ⟨a3,c3,rfl,ho3,hb3⟩
   rw [HPU.out,← HM.out] at ho3 ⊢
   have hO3:=HO2.out.kept hb3
   have hB3:Below w.heap.size w w3:=hB2.trans (hb3.mono hB2.size)
   have hs3:=hB3.size
   go_wp2_with (at_builtin; refine wpList_append_row _ rfl (.tmp 29) (.tmp 32) 26 rfl w.heap.size i0 Tryz.underlying26 hi hz0 hz1 hz2 _ _ _ rfl hO3.row a3 m0 c3 (putN tg.toNat) rfl ho3.toRow ho3.nil (by omega) hs3 ?_; intro v4 w4 hv4 hg4; obtain ⟨a4,c4,rfl,ho4⟩:=own_appended (xs:=[cl * 64+32+31]) (ys:=putN tg.toNat) hv4 hO3.byte ho3.byte; have hB4:Below w.heap.size w w4:=below_appended hB3 hs3 hO3.row hg4)
   refine (lengthBytes_any n _ hn).mono ?_
   rintro e w5 ⟨a5,c5,rfl,ho5,hb5⟩
   have hO5:=ho4.kept hb5
   have hB5:Below w.heap.size w w5:=hB4.trans (hb5.mono hB4.size)
   have hs5:=hB5.size
   have hll:=lenL_len n
   go_wp2_with (at_builtin; refine wpList_append_row _ rfl (.tmp 34) (.tmp 36) 26 rfl w.heap.size i0 Tryz.underlying26 hi hz0 hz1 hz2 _ _ _ rfl hO5.row a5 _ c5 (lenL n) rfl ho5.toRow ho5.nil (by omega) hs5 ?_; intro v6 w6 hv6 hg6)
   obtain ⟨a6,c6,rfl,ho6⟩:=own_appended (xs:=[cl * 64+32+31]++putN tg.toNat) (ys:=lenL n) hv6 hO5.byte ho5.byte
   have hB6:Below w.heap.size w w6:=below_appended hB5 hs5 hO5.row hg6
   have HL:Hid (([cl * 64+32+31]++putN tg.toNat++lenL n).length=1+m0+(lenL n).length):=by show _=_; rw [List.length_append,List.length_append,HM.out]; rfl
   go_ret
   exact ⟨a6,c6,by rw [EL.out,HL.out]; rfl,by rw [EL.out,HL.out]; exact ho6,hB6⟩
 | false =>
  have hfo:firstOf cl false=cl * 64:=by simp [firstOf]; omega
  have hbc:(w.alloc (.cells #[.int .i64 cl,.int .i64 tg,.bool false,.slice ab nb cb,.slice ak nk ck] 81)).cell? ⟨w.heap.size,1,none⟩=some (.int .i64 tg):=by rw [cell_of_row _ w.heap.size 1 _ 81 (0,0) (heap_alloc_new w _)]; rfl
  have hbs:(w.alloc (.cells #[.int .i64 cl,.int .i64 tg,.bool false,.slice ab nb cb,.slice ak nk ck] 81)).heap.size=w.heap.size+1:=by simp
  have hkA:∀ o:Obj,((w.alloc (.cells #[.int .i64 cl,.int .i64 tg,.bool false,.slice ab nb cb,.slice ak nk ck] 81)).alloc o).cell? ⟨w.heap.size,1,none⟩=some (.int .i64 tg):=fun o=>(((Below.refl (w.alloc (.cells #[.int .i64 cl,.int .i64 tg,.bool false,.slice ab nb cb,.slice ak nk ck] 81)).heap.size (w.alloc (.cells #[.int .i64 cl,.int .i64 tg,.bool false,.slice ab nb cb,.slice ak nk ck] 81))).alloc (Nat.le_refl _) o).cell (p:=⟨w.heap.size,1,none⟩) (by simp)).trans hbc
  by_cases ht:tg<31
  ·have hft:bits .or .u8 (cl * 64) tg=cl * 64+tg:=or8i _ _ (by omega) (by omega) (by omega) t0 (by omega)
   have hwt:IntKind.u8.wrap tg=tg:=by rw [IntKind.wrap_u8]; omega
   have el:headL (.mk cl tg false bo ks) n = [cl * 64+tg]++lenL n:=by show (if tg<31 then [firstOf cl false+tg] else (firstOf cl false+31)::putN tg.toNat)++lenL n=_; rw [if_pos ht,hfo]
   have EL:Hid (_=_):=el
   clear el hfo
   have HO:∀ W:World,w.heap.size≤W.heap.size→∀ g,W.heap.size=g→Hid (Own w.heap.size (W.alloc (.cells #[.int .u8 (cl * 64+tg)] 5)) (some ⟨g,0,none⟩) 1 1 [cl * 64+tg]):=fun W h g hg=>own_one w.heap.size W g hg h (cl * 64+tg) (by omega)
   go_enter Tryz.func83,Tryz.ntmps83
   go_wp2_with fail
   go_region_held_law (fun w'=>w'.cell? ⟨w.heap.size,1,none⟩=some (.int .i64 tg)) (first | assumption | exact hbc | exact hkA _ | exact hS3 | exact hS3a _ | exact hS5)
    (first
     | (go_at_call 103; refine (lengthBytes_any n _ hn).mono ?_; rintro e w3 ⟨a3,c3,rfl,ho3,hb3⟩; have hS3:w3.cell? ⟨w.heap.size,1,none⟩=some (.int .i64 tg):=(hb3.cell (p:=⟨w.heap.size,1,none⟩) (by simp <;> omega)).trans (by first | exact hbc | exact hkA _); have hS3a:∀ o:Obj,(w3.alloc o).cell? ⟨w.heap.size,1,none⟩=some (.int .i64 tg):=fun o=>(((Below.refl w3.heap.size w3).alloc (Nat.le_refl _) o).cell (p:=⟨w.heap.size,1,none⟩) (by have:=hb3.size; simp at this; show w.heap.size<_; omega)).trans hS3)
     | (have hOb:=((HO (w.alloc (.cells #[.int .i64 cl,.int .i64 tg,.bool false,.slice ab nb cb,.slice ak nk ck] 81)) (by simp) (w.heap.size+1) (by simp)).out.drew.kept hb3); have hBb:Below w.heap.size w w3:=((hbl.alloc (by simp) _).drew).trans (hb3.mono (by simp <;> omega)); refine step_append_row' rfl (.tmp 23) (.tmp 25) 26 rfl w.heap.size i0 Tryz.underlying26 hi hz0 hz1 hz2 _ _ _ rfl hOb.row a3 _ c3 (lenL n) rfl ho3.toRow ho3.nil (by have:=lenL_len n; omega) hBb.size ?_; intro v5 w5 hv5 hg5; obtain ⟨a5,c5,rfl,ho5⟩:=own_appended (xs:=[cl * 64+tg]) (ys:=lenL n) hv5 hOb.byte ho3.byte; have hB5:Below w.heap.size w w5:=below_appended hBb hBb.size hOb.row hg5; have hS5:w5.cell? ⟨w.heap.size,1,none⟩=some (.int .i64 tg):=(hg5.cell_far ⟨w.heap.size,1,none⟩ (by have:=hb3.size; simp at this; show w.heap.size<_; omega) (by show some w.heap.size≠some (w.heap.size+1); simp)).trans hS3)
     | (have hOb:=(HO w3 (by have:=hb3.size; simp at this; omega) w3.heap.size rfl).out; have hBb:Below w.heap.size w (w3.alloc (.cells #[.int .u8 (cl * 64+tg)] 5)):=(hbl.drew.trans (hb3.mono (by simp))).alloc (by have:=hb3.size; simp at this; omega) _; have hor3:=ho3.toRow.kept ((Below.refl w3.heap.size w3).alloc (Nat.le_refl _) (.cells #[.int .u8 (cl * 64+tg)] 5)); refine step_append_row' rfl (.tmp 23) (.tmp 25) 26 rfl w.heap.size i0 Tryz.underlying26 hi hz0 hz1 hz2 _ _ _ rfl hOb.row a3 _ c3 (lenL n) rfl hor3 ho3.nil (by have:=lenL_len n; omega) hBb.size ?_; intro v5 w5 hv5 hg5; obtain ⟨a5,c5,rfl,ho5⟩:=own_appended (xs:=[cl * 64+tg]) (ys:=lenL n) hv5 hOb.byte ho3.byte; have hB5:Below w.heap.size w w5:=below_appended hBb hBb.size hOb.row hg5; have hS5:w5.cell? ⟨w.heap.size,1,none⟩=some (.int .i64 tg):=(hg5.cell_far ⟨w.heap.size,1,none⟩ (by have:=hb3.size; simp at this; simp; omega) (by have:=hb3.size; simp at this; show some w.heap.size≠some w3.heap.size; simp; omega)).trans (hS3a _)))
   all_goals (
    have HL:Hid (([cl * 64+tg]++lenL n).length=1+(lenL n).length):=by show _=_; rw [List.length_append]; rfl
    go_wp2
    go_ret
    exact ⟨a5,c5,by rw [EL.out,HL.out,Nat.add_comm 1]; simp [Array.getD],by rw [EL.out,HL.out]; exact ho5,hB5⟩)
  ·have hf31:bits .or .u8 (cl * 64) 31=cl * 64+31:=or8i _ _ (by omega) (by omega) (by omega) (by decide) (by decide)
   have el:headL (.mk cl tg false bo ks) n = [cl * 64+31]++putN tg.toNat++lenL n:=by show (if tg<31 then [firstOf cl false+tg] else (firstOf cl false+31)::putN tg.toNat)++lenL n=_; rw [if_neg ht,hfo]; rfl
   have EL:Hid (_=_):=el
   clear el hfo
   have HO:=own_one w.heap.size (w.alloc (.cells #[.int .i64 cl,.int .i64 tg,.bool false,.slice ab nb cb,.slice ak nk ck] 81)) (w.heap.size+1) (by simp) (by simp) (cl * 64+31) (by omega)
   have hB2:Below w.heap.size w ((w.alloc (.cells #[.int .i64 cl,.int .i64 tg,.bool false,.slice ab nb cb,.slice ak nk ck] 81)).alloc (.cells #[.int .u8 (cl * 64+31)] 5)):=hbl.alloc (by simp) _
   have HO2:Hid (Own w.heap.size ((w.alloc (.cells #[.int .i64 cl,.int .i64 tg,.bool false,.slice ab nb cb,.slice ak nk ck] 81)).alloc (.cells #[.int .u8 (cl * 64+31)] 5)) (some ⟨w.heap.size+1,0,none⟩) 1 1 [cl * 64+31]):=HO
   have hpu:putI tg=putN tg.toNat:=by rw [putI,if_neg (by omega)]
   have HPU:Hid (putI tg=putN tg.toNat):=hpu
   have hpl:(putN tg.toNat).length≤9:=by rw [putN,putL_len]; exact cnt_le _ (by omega)
   obtain ⟨m0,hm0⟩:∃ m0,m0=(putN tg.toNat).length:=⟨_,rfl⟩
   rw [← hm0] at hpl
   have HM:Hid (m0=(putN tg.toNat).length):=hm0
   clear HO hpu hm0
   go_enter Tryz.func83,Tryz.ntmps83
   go_wp2_with fail
   refine (implPutNum_any tg _ (by omega)).mono ?_
   rintro e w3 ⟨a3,c3,rfl,ho3,hb3⟩
   rw [HPU.out,← HM.out] at ho3 ⊢
   have hO3:=HO2.out.kept hb3
   have hB3:Below w.heap.size w w3:=hB2.trans (hb3.mono hB2.size)
   have hs3:=hB3.size
   go_wp2_with (at_builtin; refine wpList_append_row _ rfl (.tmp 29) (.tmp 32) 26 rfl w.heap.size i0 Tryz.underlying26 hi hz0 hz1 hz2 _ _ _ rfl hO3.row a3 m0 c3 (putN tg.toNat) rfl ho3.toRow ho3.nil (by omega) hs3 ?_; intro v4 w4 hv4 hg4; obtain ⟨a4,c4,rfl,ho4⟩:=own_appended (xs:=[cl * 64+31]) (ys:=putN tg.toNat) hv4 hO3.byte ho3.byte; have hB4:Below w.heap.size w w4:=below_appended hB3 hs3 hO3.row hg4)
   refine (lengthBytes_any n _ hn).mono ?_
   rintro e w5 ⟨a5,c5,rfl,ho5,hb5⟩
   have hO5:=ho4.kept hb5
   have hB5:Below w.heap.size w w5:=hB4.trans (hb5.mono hB4.size)
   have hs5:=hB5.size
   have hll:=lenL_len n
   go_wp2_with (at_builtin; refine wpList_append_row _ rfl (.tmp 34) (.tmp 36) 26 rfl w.heap.size i0 Tryz.underlying26 hi hz0 hz1 hz2 _ _ _ rfl hO5.row a5 _ c5 (lenL n) rfl ho5.toRow ho5.nil (by omega) hs5 ?_; intro v6 w6 hv6 hg6)
   obtain ⟨a6,c6,rfl,ho6⟩:=own_appended (xs:=[cl * 64+31]++putN tg.toNat) (ys:=lenL n) hv6 hO5.byte ho5.byte
   have hB6:Below w.heap.size w w6:=below_appended hB5 hs5 hO5.row hg6
   have HL:Hid (([cl * 64+31]++putN tg.toNat++lenL n).length=1+m0+(lenL n).length):=by show _=_; rw [List.length_append,List.length_append,HM.out]; rfl
   go_ret
   exact ⟨a6,c6,by rw [EL.out,HL.out]; rfl,by rw [EL.out,HL.out]; exact ho6,hB6⟩
def encK (f:It→Option (List Int)):List Int→List It→Option (List Int)
 | acc,[]=>some acc
 | acc,x::xs=>match f x with
  | none=>none
  | some p=>if acc.length+p.length≤50000 then encK f (acc++p) xs else none
def innerBy (f:It→Option (List Int))(x:It):Option (List Int):=if x.cons then encK f [] x.kids else if x.body.length≤50000 then some x.body else none
def enc:Nat→It→Option (List Int)
 | 0,_=>none
 | r+1,x=>if x.shape then
   match innerBy (enc r) x with
   | none=>none
   | some inner=>if (headL x inner.length++inner).length≤50000 then some (headL x inner.length++inner) else none
  else none
theorem enc_len (r:Nat)(x:It)(l:List Int)(h:enc r x=some l):l.length≤50000:=by
 cases r with
 | zero=>simp [enc] at h
 | succ r =>
  simp only [enc] at h
  split at h
  ·split at h
   ·cases h
   ·split at h
    ·simp at h; subst h; assumption
    ·cases h
  ·cases h
theorem drop_get (xs:List It)(k:Nat)(h:k<xs.length):xs.drop k=xs.getD k default::xs.drop (k+1):=by
 rw [List.drop_eq_getElem_cons h]
 simp [h]
theorem encK_end (f:It→Option (List Int))(xs:List It)(k:Nat)(h:xs.length≤k)(acc:List Int):encK f acc (xs.drop k)=some acc:=by
 rw [List.drop_eq_nil_of_le h,encK]
theorem shape_bounds {x:It}(h:x.shape=true):(0≤x.cls∧x.cls≤3)∧0≤x.tag∧x.tag≤268435455:=by
 unfold It.shape at h
 simp only [Bool.and_eq_true,decide_eq_true_eq] at h
 omega
theorem Own.alloc {B:Nat}{w:World}{a:Option Addr}{n cap:Nat}{bs:List Int}(h:Own B w a n cap bs)(o:Obj):Own B (w.alloc o) a n cap bs:=⟨h.row.alloc o,h.byte⟩
theorem headL_len (x:It)(n:Nat)(h:0≤x.tag∧x.tag≤268435455):(headL x n).length≤14:=by
 unfold headL
 have:=lenL_len n
 rw [List.length_append]
 split
 ·simp; omega
 ·have hpl:(putN x.tag.toNat).length≤9:=by rw [putN,putL_len]; exact cnt_le _ (by omega)
  simp; omega
theorem enc_none (r:Nat)(x:It)(hs:x.shape=true)(h:innerBy (enc r) x=none):enc (r+1) x=none:=by
 simp [enc,hs,h]
theorem enc_long (r:Nat)(x:It)(inner:List Int)(hs:x.shape=true)(h:innerBy (enc r) x=some inner)(hl:¬ (headL x inner.length++inner).length≤50000):enc (r+1) x=none:=by
 simp only [enc,hs,h,if_true,if_neg hl]
theorem enc_some (r:Nat)(x:It)(inner:List Int)(hs:x.shape=true)(h:innerBy (enc r) x=some inner)(hl:(headL x inner.length++inner).length≤50000):enc (r+1) x=some (headL x inner.length++inner):=by
 simp only [enc,hs,h,if_true,if_pos hl]
theorem enc_shape (r:Nat)(x:It)(hs:x.shape=false):enc (r+1) x=none:=by
 simp [enc,hs]
open Go.RowKit
theorem own_new {B:Nat}(w:World)(h:B≤w.heap.size)(x:Int)(hx:0≤x∧x≤255):Row (w.alloc (.cells #[.int .u8 x] 5)) (some ⟨w.heap.size,0,none⟩) 1 [x]:=(own_one B w w.heap.size rfl h x hx).toRow
theorem one_byte (x:Int)(hx:0≤x∧x≤255):∀ k,0≤[x].getD k 0∧[x].getD k 0≤255:=fun k=>by match k with | 0=>simpa using hx | k+1=>simp
theorem l2Head_any (x:It)(ab:Option Addr)(nb cb:Nat)(ak:Option Addr)(nk ck:Nat)(n:Nat)(w:World)(h1:0≤x.cls∧x.cls≤3)(h2:0≤x.tag∧x.tag≤268435455)(hn:n<16777216) :
  Calls Tryz.prog 74 #[itv x ab nb cb ak nk ck,.int .i64 n] w fun e w'=>∃ a cap,e=.returned (.slice a (headL x n).length cap)∧Own w.heap.size w' a (headL x n).length cap (headL x n)∧Below w.heap.size w w':=by
 obtain ⟨i0,hi,hz0,hz1,hz2⟩:=info_parts Tryz.info5
 obtain ⟨cl,tg,co,bo,ks⟩:=x
 simp only [It.cls,It.tag,itv,It.cons] at h1 h2 ⊢
 obtain ⟨c0,c1⟩:=h1
 obtain ⟨t0,t1⟩:=h2
 cases co with
 | true =>
  have hfo:firstOf cl true=64 * cl+32:=by simp [firstOf]
  have hbl:Below w.heap.size w (w.alloc (.cells #[.int .i64 cl,.int .i64 tg,.bool true,.slice ab nb cb,.slice ak nk ck] 81)):=(Below.refl _ _).alloc (Nat.le_refl _) _
  have hw1:IntKind.u8.wrap (64 * cl+32+31)=64 * cl+32+31:=by rw [IntKind.wrap_u8]; omega
  have hB1:Below w.heap.size w ((w.alloc (.cells #[.int .i64 cl,.int .i64 tg,.bool true,.slice ab nb cb,.slice ak nk ck] 81)).alloc (.cells #[.int .u8 (64 * cl+32+31)] 5)):=hbl.alloc (by simp) _
  by_cases ht:tg<31
  ·have el:headL (.mk cl tg true bo ks) n = [64 * cl+32+tg]++lenL n:=by show (if tg<31 then [firstOf cl true+tg] else (firstOf cl true+31)::putN tg.toNat)++lenL n=_; rw [if_pos ht,hfo]
   have hw2:IntKind.u8.wrap (64 * cl+32+tg)=64 * cl+32+tg:=by rw [IntKind.wrap_u8]; omega
   have hB0:Below w.heap.size w (((w.alloc (.cells #[.int .i64 cl,.int .i64 tg,.bool true,.slice ab nb cb,.slice ak nk ck] 81)).alloc (.cells #[.int .u8 (64 * cl+32+31)] 5)).alloc (.cells #[.int .u8 (64 * cl+32+tg)] 5)):=hB1.alloc (by simp; omega) _
   have HO0:Hid (Own w.heap.size (((w.alloc (.cells #[.int .i64 cl,.int .i64 tg,.bool true,.slice ab nb cb,.slice ak nk ck] 81)).alloc (.cells #[.int .u8 (64 * cl+32+31)] 5)).alloc (.cells #[.int .u8 (64 * cl+32+tg)] 5)) (some ⟨w.heap.size+1+1,0,none⟩) 1 1 [64 * cl+32+tg]):=own_one w.heap.size ((w.alloc (.cells #[.int .i64 cl,.int .i64 tg,.bool true,.slice ab nb cb,.slice ak nk ck] 81)).alloc (.cells #[.int .u8 (64 * cl+32+31)] 5)) _ (by simp) (by simp; omega) (64 * cl+32+tg) (by omega)
   have EL:Hid (_=_):=el
   clear el hfo
   by_cases hA:n<128
   ·have hA':(n:Int)<128:=by omega
    have hwn:IntKind.u8.wrap (n:Int)=n:=by rw [IntKind.wrap_u8]; omega
    have LN:Hid (lenL n = [(n:Int)]):=by show _=_; rw [lenL,if_pos hA]
    go_enter Tryz.func74,Tryz.ntmps74
    go_wp2_with (first | (at_builtin; refine wpList_append_row _ rfl (.tmp 36) (.tmp 39) 26 rfl w.heap.size i0 Tryz.underlying26 hi hz0 hz1 hz2 _ _ _ rfl (HO0.out.alloc (.cells #[.int .u8 ((n:Int))] 5)).row _ 1 1 [(n:Int)] rfl (own_one w.heap.size (((w.alloc (.cells #[.int .i64 cl,.int .i64 tg,.bool true,.slice ab nb cb,.slice ak nk ck] 81)).alloc (.cells #[.int .u8 (64 * cl+32+31)] 5)).alloc (.cells #[.int .u8 (64 * cl+32+tg)] 5)) (w.heap.size+1+1+1) (by simp) hB0.size ((n:Int)) (by omega)).toRow (by simp) (by omega) (hB0.alloc hB0.size _).size ?_; intro v3 w3 hv3 hg3; obtain ⟨a3,c3,rfl,ho3⟩:=own_appended (xs:=[64 * cl+32+tg]) (ys:=[(n:Int)]) hv3 (HO0.out.alloc (.cells #[.int .u8 ((n:Int))] 5)).byte (one_byte _ (by omega)); have hb3:Below w.heap.size w w3:=below_appended (hB0.alloc hB0.size _) (hB0.alloc hB0.size _).size (HO0.out.alloc (.cells #[.int .u8 ((n:Int))] 5)).row hg3))
    go_ret
    have HL:Hid (([64 * cl+32+tg]++lenL n).length=1+1):=by show _=_; rw [LN.out]; simp
    exact ⟨a3,c3,by rw [EL.out,HL.out]; rfl,by rw [EL.out,HL.out,LN.out]; exact ho3,hb3⟩
   ·have hA':¬ (n:Int)<128:=by omega
    by_cases hB:n<256
    ·have q1:(n:Int) / 256≤0:=by omega
     have hwn:IntKind.u8.wrap (n:Int)=n:=by rw [IntKind.wrap_u8]; omega
     have LN:Hid (lenL n = [129,(n:Int)]):=by show _=_; rw [lenL,if_neg hA,if_pos hB]
     go_enter Tryz.func74,Tryz.ntmps74
     go_wp2_with fail
     refine wp_loop_rounds 9 ?_
     rw [rounds_succ]
     go_wp2_with (first | (at_builtin; refine wpList_append_row _ rfl (.tmp 49) (.tmp 53) 26 rfl w.heap.size i0 Tryz.underlying26 hi hz0 hz1 hz2 _ _ _ rfl (HO0.out.alloc (.cells #[.int .u8 (129)] 5)).row _ 1 1 [129] rfl (own_one w.heap.size (((w.alloc (.cells #[.int .i64 cl,.int .i64 tg,.bool true,.slice ab nb cb,.slice ak nk ck] 81)).alloc (.cells #[.int .u8 (64 * cl+32+31)] 5)).alloc (.cells #[.int .u8 (64 * cl+32+tg)] 5)) (w.heap.size+1+1+1) (by simp) hB0.size (129) (by omega)).toRow (by simp) (by omega) (hB0.alloc hB0.size _).size ?_; intro v3 w3 hv3 hg3; obtain ⟨a3,c3,rfl,ho3⟩:=own_appended (xs:=[64 * cl+32+tg]) (ys:=[129]) hv3 (HO0.out.alloc (.cells #[.int .u8 (129)] 5)).byte (one_byte _ (by omega)); have hb3:Below w.heap.size w w3:=below_appended (hB0.alloc hB0.size _) (hB0.alloc hB0.size _).size (HO0.out.alloc (.cells #[.int .u8 (129)] 5)).row hg3))
     refine wp_loop_rounds 9 ?_
     rw [rounds_succ]
     go_wp2_with (first | (at_builtin; refine wpList_append_row _ rfl (.tmp 61) (.tmp 68) 26 rfl w.heap.size i0 Tryz.underlying26 hi hz0 hz1 hz2 _ _ _ rfl (ho3.alloc (.cells #[.int .u8 ((n:Int))] 5)).row _ 1 1 [(n:Int)] rfl (own_new w3 hb3.size ((n:Int)) (by omega)) (by simp) (by omega) (hb3.alloc hb3.size _).size ?_; intro v4 w4 hv4 hg4; obtain ⟨a4,c4,rfl,ho4⟩:=own_appended (xs:=([64 * cl+32+tg]++[129])) (ys:=[(n:Int)]) hv4 (ho3.alloc (.cells #[.int .u8 ((n:Int))] 5)).byte (one_byte _ (by omega)); have hb4:Below w.heap.size w w4:=below_appended (hb3.alloc hb3.size _) (hb3.alloc hb3.size _).size (ho3.alloc (.cells #[.int .u8 ((n:Int))] 5)).row hg4))
     rw [rounds_succ]
     go_wp2
     go_ret
     have HL:Hid (([64 * cl+32+tg]++lenL n).length=1+1+1):=by show _=_; rw [LN.out]; simp
     have HX:Hid ([64 * cl+32+tg]++lenL n=(([64 * cl+32+tg]++[129])++[(n:Int)])):=by show _=_; rw [LN.out]; simp
     exact ⟨a4,c4,by rw [EL.out,HL.out]; rfl,by rw [EL.out,HL.out,HX.out]; exact ho4,hb4⟩
    ·by_cases hC:n<65536
     ·have q1:0<(n:Int) / 256:=by omega
      have q2:(n:Int) / 65536≤0:=by omega
      have hwa:IntKind.u8.wrap ((n:Int) / 256)=(n:Int) / 256:=by rw [IntKind.wrap_u8]; omega
      have hwn:IntKind.u8.wrap (n:Int)=(n:Int) % 256:=by rw [IntKind.wrap_u8]
      have LN:Hid (lenL n = [130,(n:Int) / 256,(n:Int) % 256]):=by show _=_; rw [lenL,if_neg hA,if_neg hB,if_pos hC]
      go_enter Tryz.func74,Tryz.ntmps74
      go_wp2_with fail
      refine wp_loop_rounds 9 ?_
      rw [rounds_succ]
      go_wp2
      rw [rounds_succ]
      go_wp2_with (first | (at_builtin; refine wpList_append_row _ rfl (.tmp 49) (.tmp 53) 26 rfl w.heap.size i0 Tryz.underlying26 hi hz0 hz1 hz2 _ _ _ rfl (HO0.out.alloc (.cells #[.int .u8 (130)] 5)).row _ 1 1 [130] rfl (own_one w.heap.size (((w.alloc (.cells #[.int .i64 cl,.int .i64 tg,.bool true,.slice ab nb cb,.slice ak nk ck] 81)).alloc (.cells #[.int .u8 (64 * cl+32+31)] 5)).alloc (.cells #[.int .u8 (64 * cl+32+tg)] 5)) (w.heap.size+1+1+1) (by simp) hB0.size (130) (by omega)).toRow (by simp) (by omega) (hB0.alloc hB0.size _).size ?_; intro v3 w3 hv3 hg3; obtain ⟨a3,c3,rfl,ho3⟩:=own_appended (xs:=[64 * cl+32+tg]) (ys:=[130]) hv3 (HO0.out.alloc (.cells #[.int .u8 (130)] 5)).byte (one_byte _ (by omega)); have hb3:Below w.heap.size w w3:=below_appended (hB0.alloc hB0.size _) (hB0.alloc hB0.size _).size (HO0.out.alloc (.cells #[.int .u8 (130)] 5)).row hg3))
      refine wp_loop_rounds 9 ?_
      rw [rounds_succ]
      go_wp2_with (first | (at_builtin; refine wpList_append_row _ rfl (.tmp 61) (.tmp 68) 26 rfl w.heap.size i0 Tryz.underlying26 hi hz0 hz1 hz2 _ _ _ rfl (ho3.alloc (.cells #[.int .u8 ((n:Int) / 256)] 5)).row _ 1 1 [(n:Int) / 256] rfl (own_new w3 hb3.size ((n:Int) / 256) (by omega)) (by simp) (by omega) (hb3.alloc hb3.size _).size ?_; intro v4 w4 hv4 hg4; obtain ⟨a4,c4,rfl,ho4⟩:=own_appended (xs:=([64 * cl+32+tg]++[130])) (ys:=[(n:Int) / 256]) hv4 (ho3.alloc (.cells #[.int .u8 ((n:Int) / 256)] 5)).byte (one_byte _ (by omega)); have hb4:Below w.heap.size w w4:=below_appended (hb3.alloc hb3.size _) (hb3.alloc hb3.size _).size (ho3.alloc (.cells #[.int .u8 ((n:Int) / 256)] 5)).row hg4))
      rw [rounds_succ]
      go_wp2_with (first | (at_builtin; refine wpList_append_row _ rfl (.tmp 61) (.tmp 68) 26 rfl w.heap.size i0 Tryz.underlying26 hi hz0 hz1 hz2 _ _ _ rfl (ho4.alloc (.cells #[.int .u8 ((n:Int) % 256)] 5)).row _ 1 1 [(n:Int) % 256] rfl (own_new w4 hb4.size ((n:Int) % 256) (by omega)) (by simp) (by omega) (hb4.alloc hb4.size _).size ?_; intro v5 w5 hv5 hg5; obtain ⟨a5,c5,rfl,ho5⟩:=own_appended (xs:=(([64 * cl+32+tg]++[130])++[(n:Int) / 256])) (ys:=[(n:Int) % 256]) hv5 (ho4.alloc (.cells #[.int .u8 ((n:Int) % 256)] 5)).byte (one_byte _ (by omega)); have hb5:Below w.heap.size w w5:=below_appended (hb4.alloc hb4.size _) (hb4.alloc hb4.size _).size (ho4.alloc (.cells #[.int .u8 ((n:Int) % 256)] 5)).row hg5))
      rw [rounds_succ]
      go_wp2
      go_ret
      have HL:Hid (([64 * cl+32+tg]++lenL n).length=1+1+1+1):=by show _=_; rw [LN.out]; simp
      have HX:Hid ([64 * cl+32+tg]++lenL n=((([64 * cl+32+tg]++[130])++[(n:Int) / 256])++[(n:Int) % 256])):=by show _=_; rw [LN.out]; simp
      exact ⟨a5,c5,by rw [EL.out,HL.out]; rfl,by rw [EL.out,HL.out,HX.out]; exact ho5,hb5⟩
     ·have q1:0<(n:Int) / 256:=by omega
      have q2:0<(n:Int) / 65536:=by omega
      have q3:(n:Int) / 16777216≤0:=by omega
      have hwb:IntKind.u8.wrap ((n:Int) / 65536)=(n:Int) / 65536:=by rw [IntKind.wrap_u8]; omega
      have hwa:IntKind.u8.wrap ((n:Int) / 256)=(n:Int) / 256 % 256:=by rw [IntKind.wrap_u8]
      have hwn:IntKind.u8.wrap (n:Int)=(n:Int) % 256:=by rw [IntKind.wrap_u8]
      have LN:Hid (lenL n = [131,(n:Int) / 65536,(n:Int) / 256 % 256,(n:Int) % 256]):=by show _=_; rw [lenL,if_neg hA,if_neg hB,if_neg hC]
      go_enter Tryz.func74,Tryz.ntmps74
      go_wp2_with fail
      refine wp_loop_rounds 9 ?_
      rw [rounds_succ]
      go_wp2
      rw [rounds_succ]
      go_wp2
      rw [rounds_succ]
      go_wp2_with (first | (at_builtin; refine wpList_append_row _ rfl (.tmp 49) (.tmp 53) 26 rfl w.heap.size i0 Tryz.underlying26 hi hz0 hz1 hz2 _ _ _ rfl (HO0.out.alloc (.cells #[.int .u8 (131)] 5)).row _ 1 1 [131] rfl (own_one w.heap.size (((w.alloc (.cells #[.int .i64 cl,.int .i64 tg,.bool true,.slice ab nb cb,.slice ak nk ck] 81)).alloc (.cells #[.int .u8 (64 * cl+32+31)] 5)).alloc (.cells #[.int .u8 (64 * cl+32+tg)] 5)) (w.heap.size+1+1+1) (by simp) hB0.size (131) (by omega)).toRow (by simp) (by omega) (hB0.alloc hB0.size _).size ?_; intro v3 w3 hv3 hg3; obtain ⟨a3,c3,rfl,ho3⟩:=own_appended (xs:=[64 * cl+32+tg]) (ys:=[131]) hv3 (HO0.out.alloc (.cells #[.int .u8 (131)] 5)).byte (one_byte _ (by omega)); have hb3:Below w.heap.size w w3:=below_appended (hB0.alloc hB0.size _) (hB0.alloc hB0.size _).size (HO0.out.alloc (.cells #[.int .u8 (131)] 5)).row hg3))
      refine wp_loop_rounds 9 ?_
      rw [rounds_succ]
      go_wp2_with (first | (at_builtin; refine wpList_append_row _ rfl (.tmp 61) (.tmp 68) 26 rfl w.heap.size i0 Tryz.underlying26 hi hz0 hz1 hz2 _ _ _ rfl (ho3.alloc (.cells #[.int .u8 ((n:Int) / 65536)] 5)).row _ 1 1 [(n:Int) / 65536] rfl (own_new w3 hb3.size ((n:Int) / 65536) (by omega)) (by simp) (by omega) (hb3.alloc hb3.size _).size ?_; intro v4 w4 hv4 hg4; obtain ⟨a4,c4,rfl,ho4⟩:=own_appended (xs:=([64 * cl+32+tg]++[131])) (ys:=[(n:Int) / 65536]) hv4 (ho3.alloc (.cells #[.int .u8 ((n:Int) / 65536)] 5)).byte (one_byte _ (by omega)); have hb4:Below w.heap.size w w4:=below_appended (hb3.alloc hb3.size _) (hb3.alloc hb3.size _).size (ho3.alloc (.cells #[.int .u8 ((n:Int) / 65536)] 5)).row hg4))
      rw [rounds_succ]
      go_wp2_with (first | (at_builtin; refine wpList_append_row _ rfl (.tmp 61) (.tmp 68) 26 rfl w.heap.size i0 Tryz.underlying26 hi hz0 hz1 hz2 _ _ _ rfl (ho4.alloc (.cells #[.int .u8 ((n:Int) / 256 % 256)] 5)).row _ 1 1 [(n:Int) / 256 % 256] rfl (own_new w4 hb4.size ((n:Int) / 256 % 256) (by omega)) (by simp) (by omega) (hb4.alloc hb4.size _).size ?_; intro v5 w5 hv5 hg5; obtain ⟨a5,c5,rfl,ho5⟩:=own_appended (xs:=(([64 * cl+32+tg]++[131])++[(n:Int) / 65536])) (ys:=[(n:Int) / 256 % 256]) hv5 (ho4.alloc (.cells #[.int .u8 ((n:Int) / 256 % 256)] 5)).byte (one_byte _ (by omega)); have hb5:Below w.heap.size w w5:=below_appended (hb4.alloc hb4.size _) (hb4.alloc hb4.size _).size (ho4.alloc (.cells #[.int .u8 ((n:Int) / 256 % 256)] 5)).row hg5))
      rw [rounds_succ]
      go_wp2_with (first | (at_builtin; refine wpList_append_row _ rfl (.tmp 61) (.tmp 68) 26 rfl w.heap.size i0 Tryz.underlying26 hi hz0 hz1 hz2 _ _ _ rfl (ho5.alloc (.cells #[.int .u8 ((n:Int) % 256)] 5)).row _ 1 1 [(n:Int) % 256] rfl (own_new w5 hb5.size ((n:Int) % 256) (by omega)) (by simp) (by omega) (hb5.alloc hb5.size _).size ?_; intro v6 w6 hv6 hg6; obtain ⟨a6,c6,rfl,ho6⟩:=own_appended (xs:=((([64 * cl+32+tg]++[131])++[(n:Int) / 65536])++[(n:Int) / 256 % 256])) (ys:=[(n:Int) % 256]) hv6 (ho5.alloc (.cells #[.int .u8 ((n:Int) % 256)] 5)).byte (one_byte _ (by omega)); have hb6:Below w.heap.size w w6:=below_appended (hb5.alloc hb5.size _) (hb5.alloc hb5.size _).size (ho5.alloc (.cells #[.int .u8 ((n:Int) % 256)] 5)).row hg6))
      rw [rounds_succ]
      go_wp2
      go_ret
      have HL:Hid (([64 * cl+32+tg]++lenL n).length=1+1+1+1+1):=by show _=_; rw [LN.out]; simp
      have HX:Hid ([64 * cl+32+tg]++lenL n=(((([64 * cl+32+tg]++[131])++[(n:Int) / 65536])++[(n:Int) / 256 % 256])++[(n:Int) % 256])):=by show _=_; rw [LN.out]; simp
      exact ⟨a6,c6,by rw [EL.out,HL.out]; rfl,by rw [EL.out,HL.out,HX.out]; exact ho6,hb6⟩
  ·have el:headL (.mk cl tg true bo ks) n=([64 * cl+32+31]++putN tg.toNat)++lenL n:=by show (if tg<31 then [firstOf cl true+tg] else (firstOf cl true+31)::putN tg.toNat)++lenL n=_; rw [if_neg ht,hfo]; rfl
   have HO1:Hid (Own w.heap.size ((w.alloc (.cells #[.int .i64 cl,.int .i64 tg,.bool true,.slice ab nb cb,.slice ak nk ck] 81)).alloc (.cells #[.int .u8 (64 * cl+32+31)] 5)) (some ⟨w.heap.size+1,0,none⟩) 1 1 [64 * cl+32+31]):=own_one w.heap.size (w.alloc (.cells #[.int .i64 cl,.int .i64 tg,.bool true,.slice ab nb cb,.slice ak nk ck] 81)) _ (by simp) (by simp) (64 * cl+32+31) (by omega)
   have HPU:Hid (putI tg=putN tg.toNat):=by show _=_; rw [putI,if_neg (by omega)]
   have hpl:(putN tg.toNat).length≤9:=by rw [putN,putL_len]; exact cnt_le _ (by omega)
   obtain ⟨m0,hm0⟩:∃ m0,m0=(putN tg.toNat).length:=⟨_,rfl⟩
   rw [← hm0] at hpl
   have HM:Hid (m0=(putN tg.toNat).length):=hm0
   have EL:Hid (_=_):=el
   clear el hfo hm0
   by_cases hA:n<128
   ·have hA':(n:Int)<128:=by omega
    have hwn:IntKind.u8.wrap (n:Int)=n:=by rw [IntKind.wrap_u8]; omega
    have LN:Hid (lenL n = [(n:Int)]):=by show _=_; rw [lenL,if_pos hA]
    go_enter Tryz.func74,Tryz.ntmps74
    go_wp2_with fail
    refine (specPutNum_any tg _ (by omega)).mono ?_
    rintro e w1 ⟨a1,c1,rfl,ho1,hb1⟩
    rw [HPU.out,← HM.out] at ho1 ⊢
    have hO1:=HO1.out.kept hb1
    have hB2:Below w.heap.size w w1:=hB1.trans (hb1.mono hB1.size)
    go_wp2_with (first | (at_builtin; refine wpList_append_row _ rfl (.tmp 29) (.tmp 32) 26 rfl w.heap.size i0 Tryz.underlying26 hi hz0 hz1 hz2 _ _ _ rfl hO1.row a1 m0 c1 (putN tg.toNat) rfl ho1.toRow ho1.nil (by omega) hB2.size ?_; intro v2 w2 hv2 hg2; obtain ⟨a2,c2,rfl,ho2⟩:=own_appended (xs:=[64 * cl+32+31]) (ys:=(putN tg.toNat)) hv2 hO1.byte ho1.byte; have hb2:Below w.heap.size w w2:=below_appended hB2 hB2.size hO1.row hg2) | (at_builtin; refine wpList_append_row _ rfl (.tmp 36) (.tmp 39) 26 rfl w.heap.size i0 Tryz.underlying26 hi hz0 hz1 hz2 _ _ _ rfl (ho2.alloc (.cells #[.int .u8 ((n:Int))] 5)).row _ 1 1 [(n:Int)] rfl (own_new w2 hb2.size ((n:Int)) (by omega)) (by simp) (by omega) (hb2.alloc hb2.size _).size ?_; intro v3 w3 hv3 hg3; obtain ⟨a3,c3,rfl,ho3⟩:=own_appended (xs:=([64 * cl+32+31]++putN tg.toNat)) (ys:=[(n:Int)]) hv3 (ho2.alloc (.cells #[.int .u8 ((n:Int))] 5)).byte (one_byte _ (by omega)); have hb3:Below w.heap.size w w3:=below_appended (hb2.alloc hb2.size _) (hb2.alloc hb2.size _).size (ho2.alloc (.cells #[.int .u8 ((n:Int))] 5)).row hg3))
    go_ret
    have HL:Hid ((([64 * cl+32+31]++putN tg.toNat)++lenL n).length=(1+m0)+1):=by show _=_; rw [LN.out]; simp; rw [HM.out]; omega
    exact ⟨a3,c3,by rw [EL.out,HL.out]; rfl,by rw [EL.out,HL.out,LN.out]; exact ho3,hb3⟩
   ·have hA':¬ (n:Int)<128:=by omega
    by_cases hB:n<256
    ·have q1:(n:Int) / 256≤0:=by omega
     have hwn:IntKind.u8.wrap (n:Int)=n:=by rw [IntKind.wrap_u8]; omega
     have LN:Hid (lenL n = [129,(n:Int)]):=by show _=_; rw [lenL,if_neg hA,if_pos hB]
     go_enter Tryz.func74,Tryz.ntmps74
     go_wp2_with fail
     refine (specPutNum_any tg _ (by omega)).mono ?_
     rintro e w1 ⟨a1,c1,rfl,ho1,hb1⟩
     rw [HPU.out,← HM.out] at ho1 ⊢
     have hO1:=HO1.out.kept hb1
     have hB2:Below w.heap.size w w1:=hB1.trans (hb1.mono hB1.size)
     go_wp2_with (first | (at_builtin; refine wpList_append_row _ rfl (.tmp 29) (.tmp 32) 26 rfl w.heap.size i0 Tryz.underlying26 hi hz0 hz1 hz2 _ _ _ rfl hO1.row a1 m0 c1 (putN tg.toNat) rfl ho1.toRow ho1.nil (by omega) hB2.size ?_; intro v2 w2 hv2 hg2; obtain ⟨a2,c2,rfl,ho2⟩:=own_appended (xs:=[64 * cl+32+31]) (ys:=(putN tg.toNat)) hv2 hO1.byte ho1.byte; have hb2:Below w.heap.size w w2:=below_appended hB2 hB2.size hO1.row hg2))
     refine wp_loop_rounds 9 ?_
     rw [rounds_succ]
     go_wp2_with (first | (at_builtin; refine wpList_append_row _ rfl (.tmp 49) (.tmp 53) 26 rfl w.heap.size i0 Tryz.underlying26 hi hz0 hz1 hz2 _ _ _ rfl (ho2.alloc (.cells #[.int .u8 (129)] 5)).row _ 1 1 [129] rfl (own_new w2 hb2.size (129) (by omega)) (by simp) (by omega) (hb2.alloc hb2.size _).size ?_; intro v3 w3 hv3 hg3; obtain ⟨a3,c3,rfl,ho3⟩:=own_appended (xs:=([64 * cl+32+31]++putN tg.toNat)) (ys:=[129]) hv3 (ho2.alloc (.cells #[.int .u8 (129)] 5)).byte (one_byte _ (by omega)); have hb3:Below w.heap.size w w3:=below_appended (hb2.alloc hb2.size _) (hb2.alloc hb2.size _).size (ho2.alloc (.cells #[.int .u8 (129)] 5)).row hg3))
     refine wp_loop_rounds 9 ?_
     rw [rounds_succ]
     go_wp2_with (first | (at_builtin; refine wpList_append_row _ rfl (.tmp 61) (.tmp 68) 26 rfl w.heap.size i0 Tryz.underlying26 hi hz0 hz1 hz2 _ _ _ rfl (ho3.alloc (.cells #[.int .u8 ((n:Int))] 5)).row _ 1 1 [(n:Int)] rfl (own_new w3 hb3.size ((n:Int)) (by omega)) (by simp) (by omega) (hb3.alloc hb3.size _).size ?_; intro v4 w4 hv4 hg4; obtain ⟨a4,c4,rfl,ho4⟩:=own_appended (xs:=(([64 * cl+32+31]++putN tg.toNat)++[129])) (ys:=[(n:Int)]) hv4 (ho3.alloc (.cells #[.int .u8 ((n:Int))] 5)).byte (one_byte _ (by omega)); have hb4:Below w.heap.size w w4:=below_appended (hb3.alloc hb3.size _) (hb3.alloc hb3.size _).size (ho3.alloc (.cells #[.int .u8 ((n:Int))] 5)).row hg4))
     rw [rounds_succ]
     go_wp2
     go_ret
     have HL:Hid ((([64 * cl+32+31]++putN tg.toNat)++lenL n).length=(1+m0)+1+1):=by show _=_; rw [LN.out]; simp; rw [HM.out]; omega
     have HX:Hid (([64 * cl+32+31]++putN tg.toNat)++lenL n=((([64 * cl+32+31]++putN tg.toNat)++[129])++[(n:Int)])):=by show _=_; rw [LN.out]; simp
     exact ⟨a4,c4,by rw [EL.out,HL.out]; rfl,by rw [EL.out,HL.out,HX.out]; exact ho4,hb4⟩
    ·by_cases hC:n<65536
     ·have q1:0<(n:Int) / 256:=by omega
      have q2:(n:Int) / 65536≤0:=by omega
      have hwa:IntKind.u8.wrap ((n:Int) / 256)=(n:Int) / 256:=by rw [IntKind.wrap_u8]; omega
      have hwn:IntKind.u8.wrap (n:Int)=(n:Int) % 256:=by rw [IntKind.wrap_u8]
      have LN:Hid (lenL n = [130,(n:Int) / 256,(n:Int) % 256]):=by show _=_; rw [lenL,if_neg hA,if_neg hB,if_pos hC]
      go_enter Tryz.func74,Tryz.ntmps74
      go_wp2_with fail
      refine (specPutNum_any tg _ (by omega)).mono ?_
      rintro e w1 ⟨a1,c1,rfl,ho1,hb1⟩
      rw [HPU.out,← HM.out] at ho1 ⊢
      have hO1:=HO1.out.kept hb1
      have hB2:Below w.heap.size w w1:=hB1.trans (hb1.mono hB1.size)
      go_wp2_with (first | (at_builtin; refine wpList_append_row _ rfl (.tmp 29) (.tmp 32) 26 rfl w.heap.size i0 Tryz.underlying26 hi hz0 hz1 hz2 _ _ _ rfl hO1.row a1 m0 c1 (putN tg.toNat) rfl ho1.toRow ho1.nil (by omega) hB2.size ?_; intro v2 w2 hv2 hg2; obtain ⟨a2,c2,rfl,ho2⟩:=own_appended (xs:=[64 * cl+32+31]) (ys:=(putN tg.toNat)) hv2 hO1.byte ho1.byte; have hb2:Below w.heap.size w w2:=below_appended hB2 hB2.size hO1.row hg2))
      refine wp_loop_rounds 9 ?_
      rw [rounds_succ]
      go_wp2
      rw [rounds_succ]
      go_wp2_with (first | (at_builtin; refine wpList_append_row _ rfl (.tmp 49) (.tmp 53) 26 rfl w.heap.size i0 Tryz.underlying26 hi hz0 hz1 hz2 _ _ _ rfl (ho2.alloc (.cells #[.int .u8 (130)] 5)).row _ 1 1 [130] rfl (own_new w2 hb2.size (130) (by omega)) (by simp) (by omega) (hb2.alloc hb2.size _).size ?_; intro v3 w3 hv3 hg3; obtain ⟨a3,c3,rfl,ho3⟩:=own_appended (xs:=([64 * cl+32+31]++putN tg.toNat)) (ys:=[130]) hv3 (ho2.alloc (.cells #[.int .u8 (130)] 5)).byte (one_byte _ (by omega)); have hb3:Below w.heap.size w w3:=below_appended (hb2.alloc hb2.size _) (hb2.alloc hb2.size _).size (ho2.alloc (.cells #[.int .u8 (130)] 5)).row hg3))
      refine wp_loop_rounds 9 ?_
      rw [rounds_succ]
      go_wp2_with (first | (at_builtin; refine wpList_append_row _ rfl (.tmp 61) (.tmp 68) 26 rfl w.heap.size i0 Tryz.underlying26 hi hz0 hz1 hz2 _ _ _ rfl (ho3.alloc (.cells #[.int .u8 ((n:Int) / 256)] 5)).row _ 1 1 [(n:Int) / 256] rfl (own_new w3 hb3.size ((n:Int) / 256) (by omega)) (by simp) (by omega) (hb3.alloc hb3.size _).size ?_; intro v4 w4 hv4 hg4; obtain ⟨a4,c4,rfl,ho4⟩:=own_appended (xs:=(([64 * cl+32+31]++putN tg.toNat)++[130])) (ys:=[(n:Int) / 256]) hv4 (ho3.alloc (.cells #[.int .u8 ((n:Int) / 256)] 5)).byte (one_byte _ (by omega)); have hb4:Below w.heap.size w w4:=below_appended (hb3.alloc hb3.size _) (hb3.alloc hb3.size _).size (ho3.alloc (.cells #[.int .u8 ((n:Int) / 256)] 5)).row hg4))
      rw [rounds_succ]
      go_wp2_with (first | (at_builtin; refine wpList_append_row _ rfl (.tmp 61) (.tmp 68) 26 rfl w.heap.size i0 Tryz.underlying26 hi hz0 hz1 hz2 _ _ _ rfl (ho4.alloc (.cells #[.int .u8 ((n:Int) % 256)] 5)).row _ 1 1 [(n:Int) % 256] rfl (own_new w4 hb4.size ((n:Int) % 256) (by omega)) (by simp) (by omega) (hb4.alloc hb4.size _).size ?_; intro v5 w5 hv5 hg5; obtain ⟨a5,c5,rfl,ho5⟩:=own_appended (xs:=((([64 * cl+32+31]++putN tg.toNat)++[130])++[(n:Int) / 256])) (ys:=[(n:Int) % 256]) hv5 (ho4.alloc (.cells #[.int .u8 ((n:Int) % 256)] 5)).byte (one_byte _ (by omega)); have hb5:Below w.heap.size w w5:=below_appended (hb4.alloc hb4.size _) (hb4.alloc hb4.size _).size (ho4.alloc (.cells #[.int .u8 ((n:Int) % 256)] 5)).row hg5))
      rw [rounds_succ]
      go_wp2
      go_ret
      have HL:Hid ((([64 * cl+32+31]++putN tg.toNat)++lenL n).length=(1+m0)+1+1+1):=by show _=_; rw [LN.out]; simp; rw [HM.out]; omega
      have HX:Hid (([64 * cl+32+31]++putN tg.toNat)++lenL n=(((([64 * cl+32+31]++putN tg.toNat)++[130])++[(n:Int) / 256])++[(n:Int) % 256])):=by show _=_; rw [LN.out]; simp
      exact ⟨a5,c5,by rw [EL.out,HL.out]; rfl,by rw [EL.out,HL.out,HX.out]; exact ho5,hb5⟩
     ·have q1:0<(n:Int) / 256:=by omega
      have q2:0<(n:Int) / 65536:=by omega
      have q3:(n:Int) / 16777216≤0:=by omega
      have hwb:IntKind.u8.wrap ((n:Int) / 65536)=(n:Int) / 65536:=by rw [IntKind.wrap_u8]; omega
      have hwa:IntKind.u8.wrap ((n:Int) / 256)=(n:Int) / 256 % 256:=by rw [IntKind.wrap_u8]
      have hwn:IntKind.u8.wrap (n:Int)=(n:Int) % 256:=by rw [IntKind.wrap_u8]
      have LN:Hid (lenL n = [131,(n:Int) / 65536,(n:Int) / 256 % 256,(n:Int) % 256]):=by show _=_; rw [lenL,if_neg hA,if_neg hB,if_neg hC]
      go_enter Tryz.func74,Tryz.ntmps74
      go_wp2_with fail
      refine (specPutNum_any tg _ (by omega)).mono ?_
      rintro e w1 ⟨a1,c1,rfl,ho1,hb1⟩
      rw [HPU.out,← HM.out] at ho1 ⊢
      have hO1:=HO1.out.kept hb1
      have hB2:Below w.heap.size w w1:=hB1.trans (hb1.mono hB1.size)
      go_wp2_with (first | (at_builtin; refine wpList_append_row _ rfl (.tmp 29) (.tmp 32) 26 rfl w.heap.size i0 Tryz.underlying26 hi hz0 hz1 hz2 _ _ _ rfl hO1.row a1 m0 c1 (putN tg.toNat) rfl ho1.toRow ho1.nil (by omega) hB2.size ?_; intro v2 w2 hv2 hg2; obtain ⟨a2,c2,rfl,ho2⟩:=own_appended (xs:=[64 * cl+32+31]) (ys:=(putN tg.toNat)) hv2 hO1.byte ho1.byte; have hb2:Below w.heap.size w w2:=below_appended hB2 hB2.size hO1.row hg2))
      refine wp_loop_rounds 9 ?_
      rw [rounds_succ]
      go_wp2
      rw [rounds_succ]
      go_wp2
      rw [rounds_succ]
      go_wp2_with (first | (at_builtin; refine wpList_append_row _ rfl (.tmp 49) (.tmp 53) 26 rfl w.heap.size i0 Tryz.underlying26 hi hz0 hz1 hz2 _ _ _ rfl (ho2.alloc (.cells #[.int .u8 (131)] 5)).row _ 1 1 [131] rfl (own_new w2 hb2.size (131) (by omega)) (by simp) (by omega) (hb2.alloc hb2.size _).size ?_; intro v3 w3 hv3 hg3; obtain ⟨a3,c3,rfl,ho3⟩:=own_appended (xs:=([64 * cl+32+31]++putN tg.toNat)) (ys:=[131]) hv3 (ho2.alloc (.cells #[.int .u8 (131)] 5)).byte (one_byte _ (by omega)); have hb3:Below w.heap.size w w3:=below_appended (hb2.alloc hb2.size _) (hb2.alloc hb2.size _).size (ho2.alloc (.cells #[.int .u8 (131)] 5)).row hg3))
      refine wp_loop_rounds 9 ?_
      rw [rounds_succ]
      go_wp2_with (first | (at_builtin; refine wpList_append_row _ rfl (.tmp 61) (.tmp 68) 26 rfl w.heap.size i0 Tryz.underlying26 hi hz0 hz1 hz2 _ _ _ rfl (ho3.alloc (.cells #[.int .u8 ((n:Int) / 65536)] 5)).row _ 1 1 [(n:Int) / 65536] rfl (own_new w3 hb3.size ((n:Int) / 65536) (by omega)) (by simp) (by omega) (hb3.alloc hb3.size _).size ?_; intro v4 w4 hv4 hg4; obtain ⟨a4,c4,rfl,ho4⟩:=own_appended (xs:=(([64 * cl+32+31]++putN tg.toNat)++[131])) (ys:=[(n:Int) / 65536]) hv4 (ho3.alloc (.cells #[.int .u8 ((n:Int) / 65536)] 5)).byte (one_byte _ (by omega)); have hb4:Below w.heap.size w w4:=below_appended (hb3.alloc hb3.size _) (hb3.alloc hb3.size _).size (ho3.alloc (.cells #[.int .u8 ((n:Int) / 65536)] 5)).row hg4))
      rw [rounds_succ]
      go_wp2_with (first | (at_builtin; refine wpList_append_row _ rfl (.tmp 61) (.tmp 68) 26 rfl w.heap.size i0 Tryz.underlying26 hi hz0 hz1 hz2 _ _ _ rfl (ho4.alloc (.cells #[.int .u8 ((n:Int) / 256 % 256)] 5)).row _ 1 1 [(n:Int) / 256 % 256] rfl (own_new w4 hb4.size ((n:Int) / 256 % 256) (by omega)) (by simp) (by omega) (hb4.alloc hb4.size _).size ?_; intro v5 w5 hv5 hg5; obtain ⟨a5,c5,rfl,ho5⟩:=own_appended (xs:=((([64 * cl+32+31]++putN tg.toNat)++[131])++[(n:Int) / 65536])) (ys:=[(n:Int) / 256 % 256]) hv5 (ho4.alloc (.cells #[.int .u8 ((n:Int) / 256 % 256)] 5)).byte (one_byte _ (by omega)); have hb5:Below w.heap.size w w5:=below_appended (hb4.alloc hb4.size _) (hb4.alloc hb4.size _).size (ho4.alloc (.cells #[.int .u8 ((n:Int) / 256 % 256)] 5)).row hg5))
      rw [rounds_succ]
      go_wp2_with (first | (at_builtin; refine wpList_append_row _ rfl (.tmp 61) (.tmp 68) 26 rfl w.heap.size i0 Tryz.underlying26 hi hz0 hz1 hz2 _ _ _ rfl (ho5.alloc (.cells #[.int .u8 ((n:Int) % 256)] 5)).row _ 1 1 [(n:Int) % 256] rfl (own_new w5 hb5.size ((n:Int) % 256) (by omega)) (by simp) (by omega) (hb5.alloc hb5.size _).size ?_; intro v6 w6 hv6 hg6; obtain ⟨a6,c6,rfl,ho6⟩:=own_appended (xs:=(((([64 * cl+32+31]++putN tg.toNat)++[131])++[(n:Int) / 65536])++[(n:Int) / 256 % 256])) (ys:=[(n:Int) % 256]) hv6 (ho5.alloc (.cells #[.int .u8 ((n:Int) % 256)] 5)).byte (one_byte _ (by omega)); have hb6:Below w.heap.size w w6:=below_appended (hb5.alloc hb5.size _) (hb5.alloc hb5.size _).size (ho5.alloc (.cells #[.int .u8 ((n:Int) % 256)] 5)).row hg6))
      rw [rounds_succ]
      go_wp2
      go_ret
      have HL:Hid ((([64 * cl+32+31]++putN tg.toNat)++lenL n).length=(1+m0)+1+1+1+1):=by show _=_; rw [LN.out]; simp; rw [HM.out]; omega
      have HX:Hid (([64 * cl+32+31]++putN tg.toNat)++lenL n=((((([64 * cl+32+31]++putN tg.toNat)++[131])++[(n:Int) / 65536])++[(n:Int) / 256 % 256])++[(n:Int) % 256])):=by show _=_; rw [LN.out]; simp
      exact ⟨a6,c6,by rw [EL.out,HL.out]; rfl,by rw [EL.out,HL.out,HX.out]; exact ho6,hb6⟩
 | false =>
  have hfo:firstOf cl false=64 * cl:=by simp [firstOf]
  have hbl:Below w.heap.size w (w.alloc (.cells #[.int .i64 cl,.int .i64 tg,.bool false,.slice ab nb cb,.slice ak nk ck] 81)):=(Below.refl _ _).alloc (Nat.le_refl _) _
  have hw1:IntKind.u8.wrap (64 * cl+31)=64 * cl+31:=by rw [IntKind.wrap_u8]; omega
  have hB1:Below w.heap.size w ((w.alloc (.cells #[.int .i64 cl,.int .i64 tg,.bool false,.slice ab nb cb,.slice ak nk ck] 81)).alloc (.cells #[.int .u8 (64 * cl+31)] 5)):=hbl.alloc (by simp) _
  by_cases ht:tg<31
  ·have el:headL (.mk cl tg false bo ks) n = [64 * cl+tg]++lenL n:=by show (if tg<31 then [firstOf cl false+tg] else (firstOf cl false+31)::putN tg.toNat)++lenL n=_; rw [if_pos ht,hfo]
   have hw2:IntKind.u8.wrap (64 * cl+tg)=64 * cl+tg:=by rw [IntKind.wrap_u8]; omega
   have hB0:Below w.heap.size w (((w.alloc (.cells #[.int .i64 cl,.int .i64 tg,.bool false,.slice ab nb cb,.slice ak nk ck] 81)).alloc (.cells #[.int .u8 (64 * cl+31)] 5)).alloc (.cells #[.int .u8 (64 * cl+tg)] 5)):=hB1.alloc (by simp; omega) _
   have HO0:Hid (Own w.heap.size (((w.alloc (.cells #[.int .i64 cl,.int .i64 tg,.bool false,.slice ab nb cb,.slice ak nk ck] 81)).alloc (.cells #[.int .u8 (64 * cl+31)] 5)).alloc (.cells #[.int .u8 (64 * cl+tg)] 5)) (some ⟨w.heap.size+1+1,0,none⟩) 1 1 [64 * cl+tg]):=own_one w.heap.size ((w.alloc (.cells #[.int .i64 cl,.int .i64 tg,.bool false,.slice ab nb cb,.slice ak nk ck] 81)).alloc (.cells #[.int .u8 (64 * cl+31)] 5)) _ (by simp) (by simp; omega) (64 * cl+tg) (by omega)
   have EL:Hid (_=_):=el
   clear el hfo
   by_cases hA:n<128
   ·have hA':(n:Int)<128:=by omega
    have hwn:IntKind.u8.wrap (n:Int)=n:=by rw [IntKind.wrap_u8]; omega
    have LN:Hid (lenL n = [(n:Int)]):=by show _=_; rw [lenL,if_pos hA]
    go_enter Tryz.func74,Tryz.ntmps74
    go_wp2_with (first | (at_builtin; refine wpList_append_row _ rfl (.tmp 36) (.tmp 39) 26 rfl w.heap.size i0 Tryz.underlying26 hi hz0 hz1 hz2 _ _ _ rfl (HO0.out.alloc (.cells #[.int .u8 ((n:Int))] 5)).row _ 1 1 [(n:Int)] rfl (own_one w.heap.size (((w.alloc (.cells #[.int .i64 cl,.int .i64 tg,.bool false,.slice ab nb cb,.slice ak nk ck] 81)).alloc (.cells #[.int .u8 (64 * cl+31)] 5)).alloc (.cells #[.int .u8 (64 * cl+tg)] 5)) (w.heap.size+1+1+1) (by simp) hB0.size ((n:Int)) (by omega)).toRow (by simp) (by omega) (hB0.alloc hB0.size _).size ?_; intro v3 w3 hv3 hg3; obtain ⟨a3,c3,rfl,ho3⟩:=own_appended (xs:=[64 * cl+tg]) (ys:=[(n:Int)]) hv3 (HO0.out.alloc (.cells #[.int .u8 ((n:Int))] 5)).byte (one_byte _ (by omega)); have hb3:Below w.heap.size w w3:=below_appended (hB0.alloc hB0.size _) (hB0.alloc hB0.size _).size (HO0.out.alloc (.cells #[.int .u8 ((n:Int))] 5)).row hg3))
    go_ret
    have HL:Hid (([64 * cl+tg]++lenL n).length=1+1):=by show _=_; rw [LN.out]; simp
    exact ⟨a3,c3,by rw [EL.out,HL.out]; rfl,by rw [EL.out,HL.out,LN.out]; exact ho3,hb3⟩
   ·have hA':¬ (n:Int)<128:=by omega
    by_cases hB:n<256
    ·have q1:(n:Int) / 256≤0:=by omega
     have hwn:IntKind.u8.wrap (n:Int)=n:=by rw [IntKind.wrap_u8]; omega
     have LN:Hid (lenL n = [129,(n:Int)]):=by show _=_; rw [lenL,if_neg hA,if_pos hB]
     go_enter Tryz.func74,Tryz.ntmps74
     go_wp2_with fail
     refine wp_loop_rounds 9 ?_
     rw [rounds_succ]
     go_wp2_with (first | (at_builtin; refine wpList_append_row _ rfl (.tmp 49) (.tmp 53) 26 rfl w.heap.size i0 Tryz.underlying26 hi hz0 hz1 hz2 _ _ _ rfl (HO0.out.alloc (.cells #[.int .u8 (129)] 5)).row _ 1 1 [129] rfl (own_one w.heap.size (((w.alloc (.cells #[.int .i64 cl,.int .i64 tg,.bool false,.slice ab nb cb,.slice ak nk ck] 81)).alloc (.cells #[.int .u8 (64 * cl+31)] 5)).alloc (.cells #[.int .u8 (64 * cl+tg)] 5)) (w.heap.size+1+1+1) (by simp) hB0.size (129) (by omega)).toRow (by simp) (by omega) (hB0.alloc hB0.size _).size ?_; intro v3 w3 hv3 hg3; obtain ⟨a3,c3,rfl,ho3⟩:=own_appended (xs:=[64 * cl+tg]) (ys:=[129]) hv3 (HO0.out.alloc (.cells #[.int .u8 (129)] 5)).byte (one_byte _ (by omega)); have hb3:Below w.heap.size w w3:=below_appended (hB0.alloc hB0.size _) (hB0.alloc hB0.size _).size (HO0.out.alloc (.cells #[.int .u8 (129)] 5)).row hg3))
     refine wp_loop_rounds 9 ?_
     rw [rounds_succ]
     go_wp2_with (first | (at_builtin; refine wpList_append_row _ rfl (.tmp 61) (.tmp 68) 26 rfl w.heap.size i0 Tryz.underlying26 hi hz0 hz1 hz2 _ _ _ rfl (ho3.alloc (.cells #[.int .u8 ((n:Int))] 5)).row _ 1 1 [(n:Int)] rfl (own_new w3 hb3.size ((n:Int)) (by omega)) (by simp) (by omega) (hb3.alloc hb3.size _).size ?_; intro v4 w4 hv4 hg4; obtain ⟨a4,c4,rfl,ho4⟩:=own_appended (xs:=([64 * cl+tg]++[129])) (ys:=[(n:Int)]) hv4 (ho3.alloc (.cells #[.int .u8 ((n:Int))] 5)).byte (one_byte _ (by omega)); have hb4:Below w.heap.size w w4:=below_appended (hb3.alloc hb3.size _) (hb3.alloc hb3.size _).size (ho3.alloc (.cells #[.int .u8 ((n:Int))] 5)).row hg4))
     rw [rounds_succ]
     go_wp2
     go_ret
     have HL:Hid (([64 * cl+tg]++lenL n).length=1+1+1):=by show _=_; rw [LN.out]; simp
     have HX:Hid ([64 * cl+tg]++lenL n=(([64 * cl+tg]++[129])++[(n:Int)])):=by show _=_; rw [LN.out]; simp
     exact ⟨a4,c4,by rw [EL.out,HL.out]; rfl,by rw [EL.out,HL.out,HX.out]; exact ho4,hb4⟩
    ·by_cases hC:n<65536
     ·have q1:0<(n:Int) / 256:=by omega
      have q2:(n:Int) / 65536≤0:=by omega
      have hwa:IntKind.u8.wrap ((n:Int) / 256)=(n:Int) / 256:=by rw [IntKind.wrap_u8]; omega
      have hwn:IntKind.u8.wrap (n:Int)=(n:Int) % 256:=by rw [IntKind.wrap_u8]
      have LN:Hid (lenL n = [130,(n:Int) / 256,(n:Int) % 256]):=by show _=_; rw [lenL,if_neg hA,if_neg hB,if_pos hC]
      go_enter Tryz.func74,Tryz.ntmps74
      go_wp2_with fail
      refine wp_loop_rounds 9 ?_
      rw [rounds_succ]
      go_wp2
      rw [rounds_succ]
      go_wp2_with (first | (at_builtin; refine wpList_append_row _ rfl (.tmp 49) (.tmp 53) 26 rfl w.heap.size i0 Tryz.underlying26 hi hz0 hz1 hz2 _ _ _ rfl (HO0.out.alloc (.cells #[.int .u8 (130)] 5)).row _ 1 1 [130] rfl (own_one w.heap.size (((w.alloc (.cells #[.int .i64 cl,.int .i64 tg,.bool false,.slice ab nb cb,.slice ak nk ck] 81)).alloc (.cells #[.int .u8 (64 * cl+31)] 5)).alloc (.cells #[.int .u8 (64 * cl+tg)] 5)) (w.heap.size+1+1+1) (by simp) hB0.size (130) (by omega)).toRow (by simp) (by omega) (hB0.alloc hB0.size _).size ?_; intro v3 w3 hv3 hg3; obtain ⟨a3,c3,rfl,ho3⟩:=own_appended (xs:=[64 * cl+tg]) (ys:=[130]) hv3 (HO0.out.alloc (.cells #[.int .u8 (130)] 5)).byte (one_byte _ (by omega)); have hb3:Below w.heap.size w w3:=below_appended (hB0.alloc hB0.size _) (hB0.alloc hB0.size _).size (HO0.out.alloc (.cells #[.int .u8 (130)] 5)).row hg3))
      refine wp_loop_rounds 9 ?_
      rw [rounds_succ]
      go_wp2_with (first | (at_builtin; refine wpList_append_row _ rfl (.tmp 61) (.tmp 68) 26 rfl w.heap.size i0 Tryz.underlying26 hi hz0 hz1 hz2 _ _ _ rfl (ho3.alloc (.cells #[.int .u8 ((n:Int) / 256)] 5)).row _ 1 1 [(n:Int) / 256] rfl (own_new w3 hb3.size ((n:Int) / 256) (by omega)) (by simp) (by omega) (hb3.alloc hb3.size _).size ?_; intro v4 w4 hv4 hg4; obtain ⟨a4,c4,rfl,ho4⟩:=own_appended (xs:=([64 * cl+tg]++[130])) (ys:=[(n:Int) / 256]) hv4 (ho3.alloc (.cells #[.int .u8 ((n:Int) / 256)] 5)).byte (one_byte _ (by omega)); have hb4:Below w.heap.size w w4:=below_appended (hb3.alloc hb3.size _) (hb3.alloc hb3.size _).size (ho3.alloc (.cells #[.int .u8 ((n:Int) / 256)] 5)).row hg4))
      rw [rounds_succ]
      go_wp2_with (first | (at_builtin; refine wpList_append_row _ rfl (.tmp 61) (.tmp 68) 26 rfl w.heap.size i0 Tryz.underlying26 hi hz0 hz1 hz2 _ _ _ rfl (ho4.alloc (.cells #[.int .u8 ((n:Int) % 256)] 5)).row _ 1 1 [(n:Int) % 256] rfl (own_new w4 hb4.size ((n:Int) % 256) (by omega)) (by simp) (by omega) (hb4.alloc hb4.size _).size ?_; intro v5 w5 hv5 hg5; obtain ⟨a5,c5,rfl,ho5⟩:=own_appended (xs:=(([64 * cl+tg]++[130])++[(n:Int) / 256])) (ys:=[(n:Int) % 256]) hv5 (ho4.alloc (.cells #[.int .u8 ((n:Int) % 256)] 5)).byte (one_byte _ (by omega)); have hb5:Below w.heap.size w w5:=below_appended (hb4.alloc hb4.size _) (hb4.alloc hb4.size _).size (ho4.alloc (.cells #[.int .u8 ((n:Int) % 256)] 5)).row hg5))
      rw [rounds_succ]
      go_wp2
      go_ret
      have HL:Hid (([64 * cl+tg]++lenL n).length=1+1+1+1):=by show _=_; rw [LN.out]; simp
      have HX:Hid ([64 * cl+tg]++lenL n=((([64 * cl+tg]++[130])++[(n:Int) / 256])++[(n:Int) % 256])):=by show _=_; rw [LN.out]; simp
      exact ⟨a5,c5,by rw [EL.out,HL.out]; rfl,by rw [EL.out,HL.out,HX.out]; exact ho5,hb5⟩
     ·have q1:0<(n:Int) / 256:=by omega
      have q2:0<(n:Int) / 65536:=by omega
      have q3:(n:Int) / 16777216≤0:=by omega
      have hwb:IntKind.u8.wrap ((n:Int) / 65536)=(n:Int) / 65536:=by rw [IntKind.wrap_u8]; omega
      have hwa:IntKind.u8.wrap ((n:Int) / 256)=(n:Int) / 256 % 256:=by rw [IntKind.wrap_u8]
      have hwn:IntKind.u8.wrap (n:Int)=(n:Int) % 256:=by rw [IntKind.wrap_u8]
      have LN:Hid (lenL n = [131,(n:Int) / 65536,(n:Int) / 256 % 256,(n:Int) % 256]):=by show _=_; rw [lenL,if_neg hA,if_neg hB,if_neg hC]
      go_enter Tryz.func74,Tryz.ntmps74
      go_wp2_with fail
      refine wp_loop_rounds 9 ?_
      rw [rounds_succ]
      go_wp2
      rw [rounds_succ]
      go_wp2
      rw [rounds_succ]
      go_wp2_with (first | (at_builtin; refine wpList_append_row _ rfl (.tmp 49) (.tmp 53) 26 rfl w.heap.size i0 Tryz.underlying26 hi hz0 hz1 hz2 _ _ _ rfl (HO0.out.alloc (.cells #[.int .u8 (131)] 5)).row _ 1 1 [131] rfl (own_one w.heap.size (((w.alloc (.cells #[.int .i64 cl,.int .i64 tg,.bool false,.slice ab nb cb,.slice ak nk ck] 81)).alloc (.cells #[.int .u8 (64 * cl+31)] 5)).alloc (.cells #[.int .u8 (64 * cl+tg)] 5)) (w.heap.size+1+1+1) (by simp) hB0.size (131) (by omega)).toRow (by simp) (by omega) (hB0.alloc hB0.size _).size ?_; intro v3 w3 hv3 hg3; obtain ⟨a3,c3,rfl,ho3⟩:=own_appended (xs:=[64 * cl+tg]) (ys:=[131]) hv3 (HO0.out.alloc (.cells #[.int .u8 (131)] 5)).byte (one_byte _ (by omega)); have hb3:Below w.heap.size w w3:=below_appended (hB0.alloc hB0.size _) (hB0.alloc hB0.size _).size (HO0.out.alloc (.cells #[.int .u8 (131)] 5)).row hg3))
      refine wp_loop_rounds 9 ?_
      rw [rounds_succ]
      go_wp2_with (first | (at_builtin; refine wpList_append_row _ rfl (.tmp 61) (.tmp 68) 26 rfl w.heap.size i0 Tryz.underlying26 hi hz0 hz1 hz2 _ _ _ rfl (ho3.alloc (.cells #[.int .u8 ((n:Int) / 65536)] 5)).row _ 1 1 [(n:Int) / 65536] rfl (own_new w3 hb3.size ((n:Int) / 65536) (by omega)) (by simp) (by omega) (hb3.alloc hb3.size _).size ?_; intro v4 w4 hv4 hg4; obtain ⟨a4,c4,rfl,ho4⟩:=own_appended (xs:=([64 * cl+tg]++[131])) (ys:=[(n:Int) / 65536]) hv4 (ho3.alloc (.cells #[.int .u8 ((n:Int) / 65536)] 5)).byte (one_byte _ (by omega)); have hb4:Below w.heap.size w w4:=below_appended (hb3.alloc hb3.size _) (hb3.alloc hb3.size _).size (ho3.alloc (.cells #[.int .u8 ((n:Int) / 65536)] 5)).row hg4))
      rw [rounds_succ]
      go_wp2_with (first | (at_builtin; refine wpList_append_row _ rfl (.tmp 61) (.tmp 68) 26 rfl w.heap.size i0 Tryz.underlying26 hi hz0 hz1 hz2 _ _ _ rfl (ho4.alloc (.cells #[.int .u8 ((n:Int) / 256 % 256)] 5)).row _ 1 1 [(n:Int) / 256 % 256] rfl (own_new w4 hb4.size ((n:Int) / 256 % 256) (by omega)) (by simp) (by omega) (hb4.alloc hb4.size _).size ?_; intro v5 w5 hv5 hg5; obtain ⟨a5,c5,rfl,ho5⟩:=own_appended (xs:=(([64 * cl+tg]++[131])++[(n:Int) / 65536])) (ys:=[(n:Int) / 256 % 256]) hv5 (ho4.alloc (.cells #[.int .u8 ((n:Int) / 256 % 256)] 5)).byte (one_byte _ (by omega)); have hb5:Below w.heap.size w w5:=below_appended (hb4.alloc hb4.size _) (hb4.alloc hb4.size _).size (ho4.alloc (.cells #[.int .u8 ((n:Int) / 256 % 256)] 5)).row hg5))
      rw [rounds_succ]
      go_wp2_with (first | (at_builtin; refine wpList_append_row _ rfl (.tmp 61) (.tmp 68) 26 rfl w.heap.size i0 Tryz.underlying26 hi hz0 hz1 hz2 _ _ _ rfl (ho5.alloc (.cells #[.int .u8 ((n:Int) % 256)] 5)).row _ 1 1 [(n:Int) % 256] rfl (own_new w5 hb5.size ((n:Int) % 256) (by omega)) (by simp) (by omega) (hb5.alloc hb5.size _).size ?_; intro v6 w6 hv6 hg6; obtain ⟨a6,c6,rfl,ho6⟩:=own_appended (xs:=((([64 * cl+tg]++[131])++[(n:Int) / 65536])++[(n:Int) / 256 % 256])) (ys:=[(n:Int) % 256]) hv6 (ho5.alloc (.cells #[.int .u8 ((n:Int) % 256)] 5)).byte (one_byte _ (by omega)); have hb6:Below w.heap.size w w6:=below_appended (hb5.alloc hb5.size _) (hb5.alloc hb5.size _).size (ho5.alloc (.cells #[.int .u8 ((n:Int) % 256)] 5)).row hg6))
      rw [rounds_succ]
      go_wp2
      go_ret
      have HL:Hid (([64 * cl+tg]++lenL n).length=1+1+1+1+1):=by show _=_; rw [LN.out]; simp
      have HX:Hid ([64 * cl+tg]++lenL n=(((([64 * cl+tg]++[131])++[(n:Int) / 65536])++[(n:Int) / 256 % 256])++[(n:Int) % 256])):=by show _=_; rw [LN.out]; simp
      exact ⟨a6,c6,by rw [EL.out,HL.out]; rfl,by rw [EL.out,HL.out,HX.out]; exact ho6,hb6⟩
  ·have el:headL (.mk cl tg false bo ks) n=([64 * cl+31]++putN tg.toNat)++lenL n:=by show (if tg<31 then [firstOf cl false+tg] else (firstOf cl false+31)::putN tg.toNat)++lenL n=_; rw [if_neg ht,hfo]; rfl
   have HO1:Hid (Own w.heap.size ((w.alloc (.cells #[.int .i64 cl,.int .i64 tg,.bool false,.slice ab nb cb,.slice ak nk ck] 81)).alloc (.cells #[.int .u8 (64 * cl+31)] 5)) (some ⟨w.heap.size+1,0,none⟩) 1 1 [64 * cl+31]):=own_one w.heap.size (w.alloc (.cells #[.int .i64 cl,.int .i64 tg,.bool false,.slice ab nb cb,.slice ak nk ck] 81)) _ (by simp) (by simp) (64 * cl+31) (by omega)
   have HPU:Hid (putI tg=putN tg.toNat):=by show _=_; rw [putI,if_neg (by omega)]
   have hpl:(putN tg.toNat).length≤9:=by rw [putN,putL_len]; exact cnt_le _ (by omega)
   obtain ⟨m0,hm0⟩:∃ m0,m0=(putN tg.toNat).length:=⟨_,rfl⟩
   rw [← hm0] at hpl
   have HM:Hid (m0=(putN tg.toNat).length):=hm0
   have EL:Hid (_=_):=el
   clear el hfo hm0
   by_cases hA:n<128
   ·have hA':(n:Int)<128:=by omega
    have hwn:IntKind.u8.wrap (n:Int)=n:=by rw [IntKind.wrap_u8]; omega
    have LN:Hid (lenL n = [(n:Int)]):=by show _=_; rw [lenL,if_pos hA]
    go_enter Tryz.func74,Tryz.ntmps74
    go_wp2_with fail
    refine (specPutNum_any tg _ (by omega)).mono ?_
    rintro e w1 ⟨a1,c1,rfl,ho1,hb1⟩
    rw [HPU.out,← HM.out] at ho1 ⊢
    have hO1:=HO1.out.kept hb1
    have hB2:Below w.heap.size w w1:=hB1.trans (hb1.mono hB1.size)
    go_wp2_with (first | (at_builtin; refine wpList_append_row _ rfl (.tmp 29) (.tmp 32) 26 rfl w.heap.size i0 Tryz.underlying26 hi hz0 hz1 hz2 _ _ _ rfl hO1.row a1 m0 c1 (putN tg.toNat) rfl ho1.toRow ho1.nil (by omega) hB2.size ?_; intro v2 w2 hv2 hg2; obtain ⟨a2,c2,rfl,ho2⟩:=own_appended (xs:=[64 * cl+31]) (ys:=(putN tg.toNat)) hv2 hO1.byte ho1.byte; have hb2:Below w.heap.size w w2:=below_appended hB2 hB2.size hO1.row hg2) | (at_builtin; refine wpList_append_row _ rfl (.tmp 36) (.tmp 39) 26 rfl w.heap.size i0 Tryz.underlying26 hi hz0 hz1 hz2 _ _ _ rfl (ho2.alloc (.cells #[.int .u8 ((n:Int))] 5)).row _ 1 1 [(n:Int)] rfl (own_new w2 hb2.size ((n:Int)) (by omega)) (by simp) (by omega) (hb2.alloc hb2.size _).size ?_; intro v3 w3 hv3 hg3; obtain ⟨a3,c3,rfl,ho3⟩:=own_appended (xs:=([64 * cl+31]++putN tg.toNat)) (ys:=[(n:Int)]) hv3 (ho2.alloc (.cells #[.int .u8 ((n:Int))] 5)).byte (one_byte _ (by omega)); have hb3:Below w.heap.size w w3:=below_appended (hb2.alloc hb2.size _) (hb2.alloc hb2.size _).size (ho2.alloc (.cells #[.int .u8 ((n:Int))] 5)).row hg3))
    go_ret
    have HL:Hid ((([64 * cl+31]++putN tg.toNat)++lenL n).length=(1+m0)+1):=by show _=_; rw [LN.out]; simp; rw [HM.out]; omega
    exact ⟨a3,c3,by rw [EL.out,HL.out]; rfl,by rw [EL.out,HL.out,LN.out]; exact ho3,hb3⟩
   ·have hA':¬ (n:Int)<128:=by omega
    by_cases hB:n<256
    ·have q1:(n:Int) / 256≤0:=by omega
     have hwn:IntKind.u8.wrap (n:Int)=n:=by rw [IntKind.wrap_u8]; omega
     have LN:Hid (lenL n = [129,(n:Int)]):=by show _=_; rw [lenL,if_neg hA,if_pos hB]
     go_enter Tryz.func74,Tryz.ntmps74
     go_wp2_with fail
     refine (specPutNum_any tg _ (by omega)).mono ?_
     rintro e w1 ⟨a1,c1,rfl,ho1,hb1⟩
     rw [HPU.out,← HM.out] at ho1 ⊢
     have hO1:=HO1.out.kept hb1
     have hB2:Below w.heap.size w w1:=hB1.trans (hb1.mono hB1.size)
     go_wp2_with (first | (at_builtin; refine wpList_append_row _ rfl (.tmp 29) (.tmp 32) 26 rfl w.heap.size i0 Tryz.underlying26 hi hz0 hz1 hz2 _ _ _ rfl hO1.row a1 m0 c1 (putN tg.toNat) rfl ho1.toRow ho1.nil (by omega) hB2.size ?_; intro v2 w2 hv2 hg2; obtain ⟨a2,c2,rfl,ho2⟩:=own_appended (xs:=[64 * cl+31]) (ys:=(putN tg.toNat)) hv2 hO1.byte ho1.byte; have hb2:Below w.heap.size w w2:=below_appended hB2 hB2.size hO1.row hg2))
     refine wp_loop_rounds 9 ?_
     rw [rounds_succ]
     go_wp2_with (first | (at_builtin; refine wpList_append_row _ rfl (.tmp 49) (.tmp 53) 26 rfl w.heap.size i0 Tryz.underlying26 hi hz0 hz1 hz2 _ _ _ rfl (ho2.alloc (.cells #[.int .u8 (129)] 5)).row _ 1 1 [129] rfl (own_new w2 hb2.size (129) (by omega)) (by simp) (by omega) (hb2.alloc hb2.size _).size ?_; intro v3 w3 hv3 hg3; obtain ⟨a3,c3,rfl,ho3⟩:=own_appended (xs:=([64 * cl+31]++putN tg.toNat)) (ys:=[129]) hv3 (ho2.alloc (.cells #[.int .u8 (129)] 5)).byte (one_byte _ (by omega)); have hb3:Below w.heap.size w w3:=below_appended (hb2.alloc hb2.size _) (hb2.alloc hb2.size _).size (ho2.alloc (.cells #[.int .u8 (129)] 5)).row hg3))
     refine wp_loop_rounds 9 ?_
     rw [rounds_succ]
     go_wp2_with (first | (at_builtin; refine wpList_append_row _ rfl (.tmp 61) (.tmp 68) 26 rfl w.heap.size i0 Tryz.underlying26 hi hz0 hz1 hz2 _ _ _ rfl (ho3.alloc (.cells #[.int .u8 ((n:Int))] 5)).row _ 1 1 [(n:Int)] rfl (own_new w3 hb3.size ((n:Int)) (by omega)) (by simp) (by omega) (hb3.alloc hb3.size _).size ?_; intro v4 w4 hv4 hg4; obtain ⟨a4,c4,rfl,ho4⟩:=own_appended (xs:=(([64 * cl+31]++putN tg.toNat)++[129])) (ys:=[(n:Int)]) hv4 (ho3.alloc (.cells #[.int .u8 ((n:Int))] 5)).byte (one_byte _ (by omega)); have hb4:Below w.heap.size w w4:=below_appended (hb3.alloc hb3.size _) (hb3.alloc hb3.size _).size (ho3.alloc (.cells #[.int .u8 ((n:Int))] 5)).row hg4))
     rw [rounds_succ]
     go_wp2
     go_ret
     have HL:Hid ((([64 * cl+31]++putN tg.toNat)++lenL n).length=(1+m0)+1+1):=by show _=_; rw [LN.out]; simp; rw [HM.out]; omega
     have HX:Hid (([64 * cl+31]++putN tg.toNat)++lenL n=((([64 * cl+31]++putN tg.toNat)++[129])++[(n:Int)])):=by show _=_; rw [LN.out]; simp
     exact ⟨a4,c4,by rw [EL.out,HL.out]; rfl,by rw [EL.out,HL.out,HX.out]; exact ho4,hb4⟩
    ·by_cases hC:n<65536
     ·have q1:0<(n:Int) / 256:=by omega
      have q2:(n:Int) / 65536≤0:=by omega
      have hwa:IntKind.u8.wrap ((n:Int) / 256)=(n:Int) / 256:=by rw [IntKind.wrap_u8]; omega
      have hwn:IntKind.u8.wrap (n:Int)=(n:Int) % 256:=by rw [IntKind.wrap_u8]
      have LN:Hid (lenL n = [130,(n:Int) / 256,(n:Int) % 256]):=by show _=_; rw [lenL,if_neg hA,if_neg hB,if_pos hC]
      go_enter Tryz.func74,Tryz.ntmps74
      go_wp2_with fail
      refine (specPutNum_any tg _ (by omega)).mono ?_
      rintro e w1 ⟨a1,c1,rfl,ho1,hb1⟩
      rw [HPU.out,← HM.out] at ho1 ⊢
      have hO1:=HO1.out.kept hb1
      have hB2:Below w.heap.size w w1:=hB1.trans (hb1.mono hB1.size)
      go_wp2_with (first | (at_builtin; refine wpList_append_row _ rfl (.tmp 29) (.tmp 32) 26 rfl w.heap.size i0 Tryz.underlying26 hi hz0 hz1 hz2 _ _ _ rfl hO1.row a1 m0 c1 (putN tg.toNat) rfl ho1.toRow ho1.nil (by omega) hB2.size ?_; intro v2 w2 hv2 hg2; obtain ⟨a2,c2,rfl,ho2⟩:=own_appended (xs:=[64 * cl+31]) (ys:=(putN tg.toNat)) hv2 hO1.byte ho1.byte; have hb2:Below w.heap.size w w2:=below_appended hB2 hB2.size hO1.row hg2))
      refine wp_loop_rounds 9 ?_
      rw [rounds_succ]
      go_wp2
      rw [rounds_succ]
      go_wp2_with (first | (at_builtin; refine wpList_append_row _ rfl (.tmp 49) (.tmp 53) 26 rfl w.heap.size i0 Tryz.underlying26 hi hz0 hz1 hz2 _ _ _ rfl (ho2.alloc (.cells #[.int .u8 (130)] 5)).row _ 1 1 [130] rfl (own_new w2 hb2.size (130) (by omega)) (by simp) (by omega) (hb2.alloc hb2.size _).size ?_; intro v3 w3 hv3 hg3; obtain ⟨a3,c3,rfl,ho3⟩:=own_appended (xs:=([64 * cl+31]++putN tg.toNat)) (ys:=[130]) hv3 (ho2.alloc (.cells #[.int .u8 (130)] 5)).byte (one_byte _ (by omega)); have hb3:Below w.heap.size w w3:=below_appended (hb2.alloc hb2.size _) (hb2.alloc hb2.size _).size (ho2.alloc (.cells #[.int .u8 (130)] 5)).row hg3))
      refine wp_loop_rounds 9 ?_
      rw [rounds_succ]
      go_wp2_with (first | (at_builtin; refine wpList_append_row _ rfl (.tmp 61) (.tmp 68) 26 rfl w.heap.size i0 Tryz.underlying26 hi hz0 hz1 hz2 _ _ _ rfl (ho3.alloc (.cells #[.int .u8 ((n:Int) / 256)] 5)).row _ 1 1 [(n:Int) / 256] rfl (own_new w3 hb3.size ((n:Int) / 256) (by omega)) (by simp) (by omega) (hb3.alloc hb3.size _).size ?_; intro v4 w4 hv4 hg4; obtain ⟨a4,c4,rfl,ho4⟩:=own_appended (xs:=(([64 * cl+31]++putN tg.toNat)++[130])) (ys:=[(n:Int) / 256]) hv4 (ho3.alloc (.cells #[.int .u8 ((n:Int) / 256)] 5)).byte (one_byte _ (by omega)); have hb4:Below w.heap.size w w4:=below_appended (hb3.alloc hb3.size _) (hb3.alloc hb3.size _).size (ho3.alloc (.cells #[.int .u8 ((n:Int) / 256)] 5)).row hg4))
      rw [rounds_succ]
      go_wp2_with (first | (at_builtin; refine wpList_append_row _ rfl (.tmp 61) (.tmp 68) 26 rfl w.heap.size i0 Tryz.underlying26 hi hz0 hz1 hz2 _ _ _ rfl (ho4.alloc (.cells #[.int .u8 ((n:Int) % 256)] 5)).row _ 1 1 [(n:Int) % 256] rfl (own_new w4 hb4.size ((n:Int) % 256) (by omega)) (by simp) (by omega) (hb4.alloc hb4.size _).size ?_; intro v5 w5 hv5 hg5; obtain ⟨a5,c5,rfl,ho5⟩:=own_appended (xs:=((([64 * cl+31]++putN tg.toNat)++[130])++[(n:Int) / 256])) (ys:=[(n:Int) % 256]) hv5 (ho4.alloc (.cells #[.int .u8 ((n:Int) % 256)] 5)).byte (one_byte _ (by omega)); have hb5:Below w.heap.size w w5:=below_appended (hb4.alloc hb4.size _) (hb4.alloc hb4.size _).size (ho4.alloc (.cells #[.int .u8 ((n:Int) % 256)] 5)).row hg5))
      rw [rounds_succ]
      go_wp2
      go_ret
      have HL:Hid ((([64 * cl+31]++putN tg.toNat)++lenL n).length=(1+m0)+1+1+1):=by show _=_; rw [LN.out]; simp; rw [HM.out]; omega
      have HX:Hid (([64 * cl+31]++putN tg.toNat)++lenL n=(((([64 * cl+31]++putN tg.toNat)++[130])++[(n:Int) / 256])++[(n:Int) % 256])):=by show _=_; rw [LN.out]; simp
      exact ⟨a5,c5,by rw [EL.out,HL.out]; rfl,by rw [EL.out,HL.out,HX.out]; exact ho5,hb5⟩
     ·have q1:0<(n:Int) / 256:=by omega
      have q2:0<(n:Int) / 65536:=by omega
      have q3:(n:Int) / 16777216≤0:=by omega
      have hwb:IntKind.u8.wrap ((n:Int) / 65536)=(n:Int) / 65536:=by rw [IntKind.wrap_u8]; omega
      have hwa:IntKind.u8.wrap ((n:Int) / 256)=(n:Int) / 256 % 256:=by rw [IntKind.wrap_u8]
      have hwn:IntKind.u8.wrap (n:Int)=(n:Int) % 256:=by rw [IntKind.wrap_u8]
      have LN:Hid (lenL n = [131,(n:Int) / 65536,(n:Int) / 256 % 256,(n:Int) % 256]):=by show _=_; rw [lenL,if_neg hA,if_neg hB,if_neg hC]
      go_enter Tryz.func74,Tryz.ntmps74
      go_wp2_with fail
      refine (specPutNum_any tg _ (by omega)).mono ?_
      rintro e w1 ⟨a1,c1,rfl,ho1,hb1⟩
      rw [HPU.out,← HM.out] at ho1 ⊢
      have hO1:=HO1.out.kept hb1
      have hB2:Below w.heap.size w w1:=hB1.trans (hb1.mono hB1.size)
      go_wp2_with (first | (at_builtin; refine wpList_append_row _ rfl (.tmp 29) (.tmp 32) 26 rfl w.heap.size i0 Tryz.underlying26 hi hz0 hz1 hz2 _ _ _ rfl hO1.row a1 m0 c1 (putN tg.toNat) rfl ho1.toRow ho1.nil (by omega) hB2.size ?_; intro v2 w2 hv2 hg2; obtain ⟨a2,c2,rfl,ho2⟩:=own_appended (xs:=[64 * cl+31]) (ys:=(putN tg.toNat)) hv2 hO1.byte ho1.byte; have hb2:Below w.heap.size w w2:=below_appended hB2 hB2.size hO1.row hg2))
      refine wp_loop_rounds 9 ?_
      rw [rounds_succ]
      go_wp2
      rw [rounds_succ]
      go_wp2
      rw [rounds_succ]
      go_wp2_with (first | (at_builtin; refine wpList_append_row _ rfl (.tmp 49) (.tmp 53) 26 rfl w.heap.size i0 Tryz.underlying26 hi hz0 hz1 hz2 _ _ _ rfl (ho2.alloc (.cells #[.int .u8 (131)] 5)).row _ 1 1 [131] rfl (own_new w2 hb2.size (131) (by omega)) (by simp) (by omega) (hb2.alloc hb2.size _).size ?_; intro v3 w3 hv3 hg3; obtain ⟨a3,c3,rfl,ho3⟩:=own_appended (xs:=([64 * cl+31]++putN tg.toNat)) (ys:=[131]) hv3 (ho2.alloc (.cells #[.int .u8 (131)] 5)).byte (one_byte _ (by omega)); have hb3:Below w.heap.size w w3:=below_appended (hb2.alloc hb2.size _) (hb2.alloc hb2.size _).size (ho2.alloc (.cells #[.int .u8 (131)] 5)).row hg3))
      refine wp_loop_rounds 9 ?_
      rw [rounds_succ]
      go_wp2_with (first | (at_builtin; refine wpList_append_row _ rfl (.tmp 61) (.tmp 68) 26 rfl w.heap.size i0 Tryz.underlying26 hi hz0 hz1 hz2 _ _ _ rfl (ho3.alloc (.cells #[.int .u8 ((n:Int) / 65536)] 5)).row _ 1 1 [(n:Int) / 65536] rfl (own_new w3 hb3.size ((n:Int) / 65536) (by omega)) (by simp) (by omega) (hb3.alloc hb3.size _).size ?_; intro v4 w4 hv4 hg4; obtain ⟨a4,c4,rfl,ho4⟩:=own_appended (xs:=(([64 * cl+31]++putN tg.toNat)++[131])) (ys:=[(n:Int) / 65536]) hv4 (ho3.alloc (.cells #[.int .u8 ((n:Int) / 65536)] 5)).byte (one_byte _ (by omega)); have hb4:Below w.heap.size w w4:=below_appended (hb3.alloc hb3.size _) (hb3.alloc hb3.size _).size (ho3.alloc (.cells #[.int .u8 ((n:Int) / 65536)] 5)).row hg4))
      rw [rounds_succ]
      go_wp2_with (first | (at_builtin; refine wpList_append_row _ rfl (.tmp 61) (.tmp 68) 26 rfl w.heap.size i0 Tryz.underlying26 hi hz0 hz1 hz2 _ _ _ rfl (ho4.alloc (.cells #[.int .u8 ((n:Int) / 256 % 256)] 5)).row _ 1 1 [(n:Int) / 256 % 256] rfl (own_new w4 hb4.size ((n:Int) / 256 % 256) (by omega)) (by simp) (by omega) (hb4.alloc hb4.size _).size ?_; intro v5 w5 hv5 hg5; obtain ⟨a5,c5,rfl,ho5⟩:=own_appended (xs:=((([64 * cl+31]++putN tg.toNat)++[131])++[(n:Int) / 65536])) (ys:=[(n:Int) / 256 % 256]) hv5 (ho4.alloc (.cells #[.int .u8 ((n:Int) / 256 % 256)] 5)).byte (one_byte _ (by omega)); have hb5:Below w.heap.size w w5:=below_appended (hb4.alloc hb4.size _) (hb4.alloc hb4.size _).size (ho4.alloc (.cells #[.int .u8 ((n:Int) / 256 % 256)] 5)).row hg5))
      rw [rounds_succ]
      go_wp2_with (first | (at_builtin; refine wpList_append_row _ rfl (.tmp 61) (.tmp 68) 26 rfl w.heap.size i0 Tryz.underlying26 hi hz0 hz1 hz2 _ _ _ rfl (ho5.alloc (.cells #[.int .u8 ((n:Int) % 256)] 5)).row _ 1 1 [(n:Int) % 256] rfl (own_new w5 hb5.size ((n:Int) % 256) (by omega)) (by simp) (by omega) (hb5.alloc hb5.size _).size ?_; intro v6 w6 hv6 hg6; obtain ⟨a6,c6,rfl,ho6⟩:=own_appended (xs:=(((([64 * cl+31]++putN tg.toNat)++[131])++[(n:Int) / 65536])++[(n:Int) / 256 % 256])) (ys:=[(n:Int) % 256]) hv6 (ho5.alloc (.cells #[.int .u8 ((n:Int) % 256)] 5)).byte (one_byte _ (by omega)); have hb6:Below w.heap.size w w6:=below_appended (hb5.alloc hb5.size _) (hb5.alloc hb5.size _).size (ho5.alloc (.cells #[.int .u8 ((n:Int) % 256)] 5)).row hg6))
      rw [rounds_succ]
      go_wp2
      go_ret
      have HL:Hid ((([64 * cl+31]++putN tg.toNat)++lenL n).length=(1+m0)+1+1+1+1):=by show _=_; rw [LN.out]; simp; rw [HM.out]; omega
      have HX:Hid (([64 * cl+31]++putN tg.toNat)++lenL n=((((([64 * cl+31]++putN tg.toNat)++[131])++[(n:Int) / 65536])++[(n:Int) / 256 % 256])++[(n:Int) % 256])):=by show _=_; rw [LN.out]; simp
      exact ⟨a6,c6,by rw [EL.out,HL.out]; rfl,by rw [EL.out,HL.out,HX.out]; exact ho6,hb6⟩
def inX (r:Nat)(x:It):Option (List Int):=encK (enc r) x.body x.kids
theorem shape_parts {x:It}(h:x.shape=true):(x.cons=true→x.body = [])∧(x.cons=false→x.kids = []):=by
 unfold It.shape at h
 simp only [Bool.and_eq_true] at h
 constructor
 ·intro hc
  have:=h.2
  rw [hc] at this
  simpa using this
 ·intro hc
  have:=h.2
  rw [hc] at this
  simpa using this
theorem enc_inX_none (r:Nat)(x:It)(hs:x.shape=true)(h:inX r x=none):enc (r+1) x=none:=by
 have hp:=shape_parts hs
 unfold inX at h
 cases hc:x.cons with
 | true=>rw [hp.1 hc] at h; exact enc_none r x hs (by rw [innerBy,if_pos hc]; exact h)
 | false=>rw [hp.2 hc] at h; simp [encK] at h
theorem enc_inX_long (r:Nat)(x:It)(inner:List Int)(hs:x.shape=true)(h:inX r x=some inner)(hl:¬ (headL x inner.length++inner).length≤50000):enc (r+1) x=none:=by
 have hp:=shape_parts hs
 unfold inX at h
 cases hc:x.cons with
 | true=>rw [hp.1 hc] at h; exact enc_long r x inner hs (by rw [innerBy,if_pos hc]; exact h) hl
 | false =>
  rw [hp.2 hc] at h
  simp [encK] at h
  by_cases hb:x.body.length≤50000
  ·exact enc_long r x inner hs (by rw [innerBy,if_neg (by simp [hc]),if_pos hb,h]) hl
  ·exact enc_none r x hs (by rw [innerBy,if_neg (by simp [hc]),if_neg hb])
theorem enc_inX_some (r:Nat)(x:It)(inner:List Int)(hs:x.shape=true)(h:inX r x=some inner)(hl:(headL x inner.length++inner).length≤50000):enc (r+1) x=some (headL x inner.length++inner):=by
 have hp:=shape_parts hs
 unfold inX at h
 cases hc:x.cons with
 | true=>rw [hp.1 hc] at h; exact enc_some r x inner hs (by rw [innerBy,if_pos hc]; exact h) hl
 | false =>
  rw [hp.2 hc] at h
  simp [encK] at h
  have hb:x.body.length≤50000:=by rw [h]; rw [List.length_append] at hl; omega
  exact enc_some r x inner hs (by rw [innerBy,if_neg (by simp [hc]),if_pos hb,h]) hl
end Go.Proofs.YtkdandggklpppaaGreatDoor
