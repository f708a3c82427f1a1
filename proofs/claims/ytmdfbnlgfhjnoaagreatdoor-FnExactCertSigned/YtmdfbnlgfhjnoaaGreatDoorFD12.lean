import Derived.Test.YtmdfbnlgfhjnoaaGreatDoorFD11
set_option maxRecDepth 10000
set_option maxHeartbeats 8000000
set_option linter.unusedVariables false
namespace Go.Proofs.YtmdfbnlgfhjnoaaGreatDoor
open Go.RowKit
def firstOf (cl:Int)(co:Bool):Int:=64 * cl+if co then 32 else 0
def headL (x:It)(n:Nat):List Int:=(if x.tag<31 then [firstOf x.cls x.cons+x.tag] else (firstOf x.cls x.cons+31)::putN x.tag.toNat)++lenL n
theorem lenL_len (n:Nat):(lenL n).length≤4:=by
 unfold lenL
 split
 ·simp
 ·split
  ·simp
  ·split <;> simp
theorem orI8 (a t:Nat)(ha:a<8)(ht:t<32):bits .or .u8 ((32 * a:Nat):Int) (t:Int)=((32 * a+t:Nat):Int):=by
 rw [u8_or_nat (32 * a) t (by omega) (by omega),Nat.two_pow_add_eq_or_of_lt (i:=5) (b:=t) (by omega) a]
theorem or8i (f t:Int)(h0:0≤f)(h1:f<256)(hf:f % 32=0)(ht0:0≤t)(ht:t<32):bits .or .u8 f t=f+t:=by
 have e:=orI8 (f.toNat / 32) t.toNat (by omega) (by omega)
 rw [show ((32 * (f.toNat / 32):Nat):Int)=f by omega,show (t.toNat:Int)=t by omega] at e
 rw [e]
 omega
theorem or8c (cl:Int)(h0:0≤cl)(h1:cl≤3):bits .or .u8 (cl * 64) 32=cl * 64+32:=by
 have hc:cl=0∨cl=1∨cl=2∨cl=3:=by omega
 rcases hc with rfl | rfl | rfl | rfl <;> decide +kernel
theorem step_append_row' {P:Program}{ops:Array Oper}{o:Oper}{a:Act}{w:World}{K:Act→World→Prop}{Q:Exit→Act→World→Prop}{E:Prop}
  (hg:o.guard=none) (s x:Operand) (t:TypeId) (hop:o.op=Op.call { callee:=Callee.builtin Builtin.append,args:=#[s,x],argTypes:=#[t,t] })
  (base:Nat) (i:TypeInfo) (h1:P.underlying t=some (.slice 5)) (h2:P.info? 5=some i) (h3:i.zero=some (.int .u8 0)) (h4:i.size=1) (h5:i.bytes=1)
  (v:Value) (n:Nat) (xs:List Value) (hs:a.eval s=v) (hown:w.ownsRow base 5 1 v n xs)
  (ao:Option Addr) (m c:Nat) (ys:List Int) (hx:a.eval x=.slice ao m c) (hrow:Row w ao m ys) (hnil:ao=none→c=0)
  (b1:n+m≤140737488355328) (b3:base≤w.heap.size)
  (hK:∀ v' w',w'.ownsRow base 5 1 v' (n+m) (xs++ys.map (Value.int .u8))→w.grownBy w' v.ownBlock→K (a.put o.dst v') w') :
  if Region.wanted o (yielded ops a.tmps)=true then Oper.wp P o a w K Q else E:=by
 have hw:Region.wanted o (yielded ops a.tmps)=true:=by simp [Region.wanted,hg]
 rw [if_pos hw]
 cases ao with
 | some ad =>
  obtain ⟨v',w',hrun,r1,r2,_⟩:=run_append_own (P:=P) w base t o.type 5 i (.int .u8 0) 1 1 h1 h2 h3 h4 h5 rfl (by decide) v n xs hown ad m c (ys.map (Value.int .u8)) (by rw [List.length_map,hrow.len,Nat.mul_one]) (row_cells hrow) (ints_oneCell _ _) (by unfold maxLen; omega) (by omega) b3
  unfold Oper.wp
  simp [execOp,hop,resolve,invoke,builtin,hs,hx,hrun,Result.andThen]
  exact hK v' w' r1 r2
 | none =>
  obtain ⟨rfl,rfl⟩:=row_none hrow
  obtain rfl:=hnil rfl
  have hrun:=run_append_owned_none (P:=P) (w:=w) base t o.type 5 i 1 h1 h2 v n xs hown
  unfold Oper.wp
  simp [execOp,hop,resolve,invoke,builtin,hs,hx,hrun,Result.andThen]
  exact hK v w (by simpa using hown) (World.grownBy.refl _ _)
theorem itemHead_any (x:It)(ab:Option Addr)(nb cb:Nat)(ak:Option Addr)(nk ck:Nat)(n:Nat)(w:World)(h1:0≤x.cls∧x.cls≤3)(h2:0≤x.tag∧x.tag≤268435455)(hn:n<16777216) :
  Calls Tryz.prog 150 #[itv x ab nb cb ak nk ck,.int .i64 n] w fun e w'=>∃ a cap,e=.returned (.slice a (headL x n).length cap)∧Own w.heap.size w' a (headL x n).length cap (headL x n)∧Below w.heap.size w w':=by
 obtain ⟨i0,hi,hz0,hz1,hz2⟩:=info_parts Tryz.info5
 obtain ⟨cl,tg,co,bo,ks⟩:=x
 simp only [It.cls,It.tag,itv,It.cons] at h1 h2 ⊢
 obtain ⟨c0,c1⟩:=h1
 obtain ⟨t0,t1⟩:=h2
 have hbl:Below w.heap.size w (w.alloc (.cells #[.int .i64 cl,.int .i64 tg,.bool co,.slice ab nb cb,.slice ak nk ck] 75)):=(Below.refl _ _).alloc (Nat.le_refl _) _
 cases co with
 | true =>
  have hor:=or8c cl c0 c1
  have hfo:firstOf cl true=cl * 64+32:=by simp [firstOf]; omega
  have hbc:(w.alloc (.cells #[.int .i64 cl,.int .i64 tg,.bool true,.slice ab nb cb,.slice ak nk ck] 75)).cell? ⟨w.heap.size,1,none⟩=some (.int .i64 tg):=by rw [cell_of_row _ w.heap.size 1 _ 75 (0,0) (heap_alloc_new w _)]; rfl
  have hbs:(w.alloc (.cells #[.int .i64 cl,.int .i64 tg,.bool true,.slice ab nb cb,.slice ak nk ck] 75)).heap.size=w.heap.size+1:=by simp
  have hkA:∀ o:Obj,((w.alloc (.cells #[.int .i64 cl,.int .i64 tg,.bool true,.slice ab nb cb,.slice ak nk ck] 75)).alloc o).cell? ⟨w.heap.size,1,none⟩=some (.int .i64 tg):=fun o=>(((Below.refl (w.alloc (.cells #[.int .i64 cl,.int .i64 tg,.bool true,.slice ab nb cb,.slice ak nk ck] 75)).heap.size (w.alloc (.cells #[.int .i64 cl,.int .i64 tg,.bool true,.slice ab nb cb,.slice ak nk ck] 75))).alloc (Nat.le_refl _) o).cell (p:=⟨w.heap.size,1,none⟩) (by simp)).trans hbc
  by_cases ht:tg<31
  ·have hft:bits .or .u8 (cl * 64+32) tg=cl * 64+32+tg:=or8i _ _ (by omega) (by omega) (by omega) t0 (by omega)
   have hwt:IntKind.u8.wrap tg=tg:=by rw [IntKind.wrap_u8]; omega
   have el:headL (.mk cl tg true bo ks) n = [cl * 64+32+tg]++lenL n:=by show (if tg<31 then [firstOf cl true+tg] else (firstOf cl true+31)::putN tg.toNat)++lenL n=_; rw [if_pos ht,hfo]
   have EL:Hid (_=_):=el
   clear el hfo
   have HO:∀ W:World,w.heap.size≤W.heap.size→∀ g,W.heap.size=g→Hid (Own w.heap.size (W.alloc (.cells #[.int .u8 (cl * 64+32+tg)] 5)) (some ⟨g,0,none⟩) 1 1 [cl * 64+32+tg]):=fun W h g hg=>own_one w.heap.size W g hg h (cl * 64+32+tg) (by omega)
   go_enter Tryz.func150,Tryz.ntmps150
   go_wp2_with fail
   go_region_held_law (fun w'=>w'.cell? ⟨w.heap.size,1,none⟩=some (.int .i64 tg)) (first | assumption | exact hbc | exact hkA _ | exact hS3 | exact hS3a _ | exact hS5)
    (first
     | (go_at_call 180; refine (lengthBytes_any n _ hn).mono ?_; rintro e w3 ⟨a3,c3,rfl,ho3,hb3⟩; have hS3:w3.cell? ⟨w.heap.size,1,none⟩=some (.int .i64 tg):=(hb3.cell (p:=⟨w.heap.size,1,none⟩) (by simp <;> omega)).trans (by first | exact hbc | exact hkA _); have hS3a:∀ o:Obj,(w3.alloc o).cell? ⟨w.heap.size,1,none⟩=some (.int .i64 tg):=fun o=>(((Below.refl w3.heap.size w3).alloc (Nat.le_refl _) o).cell (p:=⟨w.heap.size,1,none⟩) (by have:=hb3.size; simp at this; show w.heap.size<_; omega)).trans hS3)
     | (have hOb:=((HO (w.alloc (.cells #[.int .i64 cl,.int .i64 tg,.bool true,.slice ab nb cb,.slice ak nk ck] 75)) (by simp) (w.heap.size+1) (by simp)).out.drew.kept hb3); have hBb:Below w.heap.size w w3:=((hbl.alloc (by simp) _).drew).trans (hb3.mono (by simp <;> omega)); refine step_append_row' rfl (.tmp 23) (.tmp 25) 32 rfl w.heap.size i0 Tryz.underlying32 hi hz0 hz1 hz2 _ _ _ rfl hOb.row a3 _ c3 (lenL n) rfl ho3.toRow ho3.nil (by have:=lenL_len n; omega) hBb.size ?_; intro v5 w5 hv5 hg5; obtain ⟨a5,c5,rfl,ho5⟩:=own_appended (xs:=[cl * 64+32+tg]) (ys:=lenL n) hv5 hOb.byte ho3.byte; have hB5:Below w.heap.size w w5:=below_appended hBb hBb.size hOb.row hg5; have hS5:w5.cell? ⟨w.heap.size,1,none⟩=some (.int .i64 tg):=(hg5.cell_far ⟨w.heap.size,1,none⟩ (by have:=hb3.size; simp at this; show w.heap.size<_; omega) (by show some w.heap.size≠some (w.heap.size+1); simp)).trans hS3)
     | (have hOb:=(HO w3 (by have:=hb3.size; simp at this; omega) w3.heap.size rfl).out; have hBb:Below w.heap.size w (w3.alloc (.cells #[.int .u8 (cl * 64+32+tg)] 5)):=(hbl.drew.trans (hb3.mono (by simp))).alloc (by have:=hb3.size; simp at this; omega) _; have hor3:=ho3.toRow.kept ((Below.refl w3.heap.size w3).alloc (Nat.le_refl _) (.cells #[.int .u8 (cl * 64+32+tg)] 5)); refine step_append_row' rfl (.tmp 23) (.tmp 25) 32 rfl w.heap.size i0 Tryz.underlying32 hi hz0 hz1 hz2 _ _ _ rfl hOb.row a3 _ c3 (lenL n) rfl hor3 ho3.nil (by have:=lenL_len n; omega) hBb.size ?_; intro v5 w5 hv5 hg5; obtain ⟨a5,c5,rfl,ho5⟩:=own_appended (xs:=[cl * 64+32+tg]) (ys:=lenL n) hv5 hOb.byte ho3.byte; have hB5:Below w.heap.size w w5:=below_appended hBb hBb.size hOb.row hg5; have hS5:w5.cell? ⟨w.heap.size,1,none⟩=some (.int .i64 tg):=(hg5.cell_far ⟨w.heap.size,1,none⟩ (by have:=hb3.size; simp at this; simp; omega) (by have:=hb3.size; simp at this; show some w.heap.size≠some w3.heap.size; simp; omega)).trans (hS3a _)))
   all_goals (
    have HL:Hid (([cl * 64+32+tg]++lenL n).length=1+(lenL n).length):=by show _=_; rw [List.length_append]; rfl
    go_wp2
    go_ret
    exact ⟨a5,c5,by rw [EL.out,HL.out,Nat.add_comm 1]; simp [Array.getD],by rw [EL.out,HL.out]; exact ho5,hB5⟩)
  ·have hf31:bits .or .u8 (cl * 64+32) 31=cl * 64+32+31:=or8i _ _ (by omega) (by omega) (by omega) (by decide) (by decide)
   have el:headL (.mk cl tg true bo ks) n = [cl * 64+32+31]++putN tg.toNat++lenL n:=by show (if tg<31 then [firstOf cl true+tg] else (firstOf cl true+31)::putN tg.toNat)++lenL n=_; rw [if_neg ht,hfo]; rfl
   have EL:Hid (_=_):=el
   clear el hfo
   have HO:=own_one w.heap.size (w.alloc (.cells #[.int .i64 cl,.int .i64 tg,.bool true,.slice ab nb cb,.slice ak nk ck] 75)) (w.heap.size+1) (by simp) (by simp) (cl * 64+32+31) (by omega)
   have hB2:Below w.heap.size w ((w.alloc (.cells #[.int .i64 cl,.int .i64 tg,.bool true,.slice ab nb cb,.slice ak nk ck] 75)).alloc (.cells #[.int .u8 (cl * 64+32+31)] 5)):=hbl.alloc (by simp) _
   have HO2:Hid (Own w.heap.size ((w.alloc (.cells #[.int .i64 cl,.int .i64 tg,.bool true,.slice ab nb cb,.slice ak nk ck] 75)).alloc (.cells #[.int .u8 (cl * 64+32+31)] 5)) (some ⟨w.heap.size+1,0,none⟩) 1 1 [cl * 64+32+31]):=HO
   have hpu:putI tg=putN tg.toNat:=by rw [putI,if_neg (by omega)]
   have HPU:Hid (putI tg=putN tg.toNat):=hpu
   have hpl:(putN tg.toNat).length≤9:=by rw [putN,putL_len]; exact cnt_le _ (by omega)
   obtain ⟨m0,hm0⟩:∃ m0,m0=(putN tg.toNat).length:=⟨_,rfl⟩
   rw [← hm0] at hpl
   have HM:Hid (m0=(putN tg.toNat).length):=hm0
   clear HO hpu hm0
   go_enter Tryz.func150,Tryz.ntmps150
   go_wp2_with fail
   refine (implPutNum_any tg _ (by omega)).mono ?_
   rintro e w3 ⟨a3,c3,rfl,ho3,hb3⟩
   rw [HPU.out,← HM.out] at ho3 ⊢
   have hO3:=HO2.out.kept hb3
   have hB3:Below w.heap.size w w3:=hB2.trans (hb3.mono hB2.size)
   have hs3:=hB3.size
   go_wp2_with (at_builtin; refine wpList_append_row _ rfl (.tmp 29) (.tmp 32) 32 rfl w.heap.size i0 Tryz.underlying32 hi hz0 hz1 hz2 _ _ _ rfl hO3.row a3 m0 c3 (putN tg.toNat) rfl ho3.toRow ho3.nil (by omega) hs3 ?_; intro v4 w4 hv4 hg4; obtain ⟨a4,c4,rfl,ho4⟩:=own_appended (xs:=[cl * 64+32+31]) (ys:=putN tg.toNat) hv4 hO3.byte ho3.byte; have hB4:Below w.heap.size w w4:=below_appended hB3 hs3 hO3.row hg4)
   refine (lengthBytes_any n _ hn).mono ?_
   rintro e w5 ⟨a5,c5,rfl,ho5,hb5⟩
   have hO5:=ho4.kept hb5
   have hB5:Below w.heap.size w w5:=hB4.trans (hb5.mono hB4.size)
   have hs5:=hB5.size
   have hll:=lenL_len n
   go_wp2_with (at_builtin; refine wpList_append_row _ rfl (.tmp 34) (.tmp 36) 32 rfl w.heap.size i0 Tryz.underlying32 hi hz0 hz1 hz2 _ _ _ rfl hO5.row a5 _ c5 (lenL n) rfl ho5.toRow ho5.nil (by omega) hs5 ?_; intro v6 w6 hv6 hg6)
   obtain ⟨a6,c6,rfl,ho6⟩:=own_appended (xs:=[cl * 64+32+31]++putN tg.toNat) (ys:=lenL n) hv6 hO5.byte ho5.byte
   have hB6:Below w.heap.size w w6:=below_appended hB5 hs5 hO5.row hg6
   have HL:Hid (([cl * 64+32+31]++putN tg.toNat++lenL n).length=1+m0+(lenL n).length):=by show _=_; rw [List.length_append,List.length_append,HM.out]; rfl
   go_ret
   exact ⟨a6,c6,by rw [EL.out,HL.out]; rfl,by rw [EL.out,HL.out]; exact ho6,hB6⟩
 | false =>
  have hfo:firstOf cl false=cl * 64:=by simp [firstOf]; omega
  have hbc:(w.alloc (.cells #[.int .i64 cl,.int .i64 tg,.bool false,.slice ab nb cb,.slice ak nk ck] 75)).cell? ⟨w.heap.size,1,none⟩=some (.int .i64 tg):=by rw [cell_of_row _ w.heap.size 1 _ 75 (0,0) (heap_alloc_new w _)]; rfl
  have hbs:(w.alloc (.cells #[.int .i64 cl,.int .i64 tg,.bool false,.slice ab nb cb,.slice ak nk ck] 75)).heap.size=w.heap.size+1:=by simp
  have hkA:∀ o:Obj,((w.alloc (.cells #[.int .i64 cl,.int .i64 tg,.bool false,.slice ab nb cb,.slice ak nk ck] 75)).alloc o).cell? ⟨w.heap.size,1,none⟩=some (.int .i64 tg):=fun o=>(((Below.refl (w.alloc (.cells #[.int .i64 cl,.int .i64 tg,.bool false,.slice ab nb cb,.slice ak nk ck] 75)).heap.size (w.alloc (.cells #[.int .i64 cl,.int .i64 tg,.bool false,.slice ab nb cb,.slice ak nk ck] 75))).alloc (Nat.le_refl _) o).cell (p:=⟨w.heap.size,1,none⟩) (by simp)).trans hbc
  by_cases ht:tg<31
  ·have hft:bits .or .u8 (cl * 64) tg=cl * 64+tg:=or8i _ _ (by omega) (by omega) (by omega) t0 (by omega)
   have hwt:IntKind.u8.wrap tg=tg:=by rw [IntKind.wrap_u8]; omega
   have el:headL (.mk cl tg false bo ks) n = [cl * 64+tg]++lenL n:=by show (if tg<31 then [firstOf cl false+tg] else (firstOf cl false+31)::putN tg.toNat)++lenL n=_; rw [if_pos ht,hfo]
   have EL:Hid (_=_):=el
   clear el hfo
   have HO:∀ W:World,w.heap.size≤W.heap.size→∀ g,W.heap.size=g→Hid (Own w.heap.size (W.alloc (.cells #[.int .u8 (cl * 64+tg)] 5)) (some ⟨g,0,none⟩) 1 1 [cl * 64+tg]):=fun W h g hg=>own_one w.heap.size W g hg h (cl * 64+tg) (by omega)
   go_enter Tryz.func150,Tryz.ntmps150
   go_wp2_with fail
   go_region_held_law (fun w'=>w'.cell? ⟨w.heap.size,1,none⟩=some (.int .i64 tg)) (first | assumption | exact hbc | exact hkA _ | exact hS3 | exact hS3a _ | exact hS5)
    (first
     | (go_at_call 180; refine (lengthBytes_any n _ hn).mono ?_; rintro e w3 ⟨a3,c3,rfl,ho3,hb3⟩; have hS3:w3.cell? ⟨w.heap.size,1,none⟩=some (.int .i64 tg):=(hb3.cell (p:=⟨w.heap.size,1,none⟩) (by simp <;> omega)).trans (by first | exact hbc | exact hkA _); have hS3a:∀ o:Obj,(w3.alloc o).cell? ⟨w.heap.size,1,none⟩=some (.int .i64 tg):=fun o=>(((Below.refl w3.heap.size w3).alloc (Nat.le_refl _) o).cell (p:=⟨w.heap.size,1,none⟩) (by have:=hb3.size; simp at this; show w.heap.size<_; omega)).trans hS3)
     | (have hOb:=((HO (w.alloc (.cells #[.int .i64 cl,.int .i64 tg,.bool false,.slice ab nb cb,.slice ak nk ck] 75)) (by simp) (w.heap.size+1) (by simp)).out.drew.kept hb3); have hBb:Below w.heap.size w w3:=((hbl.alloc (by simp) _).drew).trans (hb3.mono (by simp <;> omega)); refine step_append_row' rfl (.tmp 23) (.tmp 25) 32 rfl w.heap.size i0 Tryz.underlying32 hi hz0 hz1 hz2 _ _ _ rfl hOb.row a3 _ c3 (lenL n) rfl ho3.toRow ho3.nil (by have:=lenL_len n; omega) hBb.size ?_; intro v5 w5 hv5 hg5; obtain ⟨a5,c5,rfl,ho5⟩:=own_appended (xs:=[cl * 64+tg]) (ys:=lenL n) hv5 hOb.byte ho3.byte; have hB5:Below w.heap.size w w5:=below_appended hBb hBb.size hOb.row hg5; have hS5:w5.cell? ⟨w.heap.size,1,none⟩=some (.int .i64 tg):=(hg5.cell_far ⟨w.heap.size,1,none⟩ (by have:=hb3.size; simp at this; show w.heap.size<_; omega) (by show some w.heap.size≠some (w.heap.size+1); simp)).trans hS3)
     | (have hOb:=(HO w3 (by have:=hb3.size; simp at this; omega) w3.heap.size rfl).out; have hBb:Below w.heap.size w (w3.alloc (.cells #[.int .u8 (cl * 64+tg)] 5)):=(hbl.drew.trans (hb3.mono (by simp))).alloc (by have:=hb3.size; simp at this; omega) _; have hor3:=ho3.toRow.kept ((Below.refl w3.heap.size w3).alloc (Nat.le_refl _) (.cells #[.int .u8 (cl * 64+tg)] 5)); refine step_append_row' rfl (.tmp 23) (.tmp 25) 32 rfl w.heap.size i0 Tryz.underlying32 hi hz0 hz1 hz2 _ _ _ rfl hOb.row a3 _ c3 (lenL n) rfl hor3 ho3.nil (by have:=lenL_len n; omega) hBb.size ?_; intro v5 w5 hv5 hg5; obtain ⟨a5,c5,rfl,ho5⟩:=own_appended (xs:=[cl * 64+tg]) (ys:=lenL n) hv5 hOb.byte ho3.byte; have hB5:Below w.heap.size w w5:=below_appended hBb hBb.size hOb.row hg5; have hS5:w5.cell? ⟨w.heap.size,1,none⟩=some (.int .i64 tg):=(hg5.cell_far ⟨w.heap.size,1,none⟩ (by have:=hb3.size; simp at this; simp; omega) (by have:=hb3.size; simp at this; show some w.heap.size≠some w3.heap.size; simp; omega)).trans (hS3a _)))
   all_goals (
    have HL:Hid (([cl * 64+tg]++lenL n).length=1+(lenL n).length):=by show _=_; rw [List.length_append]; rfl
    go_wp2
    go_ret
    exact ⟨a5,c5,by rw [EL.out,HL.out,Nat.add_comm 1]; simp [Array.getD],by rw [EL.out,HL.out]; exact ho5,hB5⟩)
  ·have hf31:bits .or .u8 (cl * 64) 31=cl * 64+31:=or8i _ _ (by omega) (by omega) (by omega) (by decide) (by decide)
   have el:headL (.mk cl tg false bo ks) n = [cl * 64+31]++putN tg.toNat++lenL n:=by show (if tg<31 then [firstOf cl false+tg] else (firstOf cl false+31)::putN tg.toNat)++lenL n=_; rw [if_neg ht,hfo]; rfl
   have EL:Hid (_=_):=el
   clear el hfo
   have HO:=own_one w.heap.size (w.alloc (.cells #[.int .i64 cl,.int .i64 tg,.bool false,.slice ab nb cb,.slice ak nk ck] 75)) (w.heap.size+1) (by simp) (by simp) (cl * 64+31) (by omega)
   have hB2:Below w.heap.size w ((w.alloc (.cells #[.int .i64 cl,.int .i64 tg,.bool false,.slice ab nb cb,.slice ak nk ck] 75)).alloc (.cells #[.int .u8 (cl * 64+31)] 5)):=hbl.alloc (by simp) _
   have HO2:Hid (Own w.heap.size ((w.alloc (.cells #[.int .i64 cl,.int .i64 tg,.bool false,.slice ab nb cb,.slice ak nk ck] 75)).alloc (.cells #[.int .u8 (cl * 64+31)] 5)) (some ⟨w.heap.size+1,0,none⟩) 1 1 [cl * 64+31]):=HO
   have hpu:putI tg=putN tg.toNat:=by rw [putI,if_neg (by omega)]
   have HPU:Hid (putI tg=putN tg.toNat):=hpu
   have hpl:(putN tg.toNat).length≤9:=by rw [putN,putL_len]; exact cnt_le _ (by omega)
   obtain ⟨m0,hm0⟩:∃ m0,m0=(putN tg.toNat).length:=⟨_,rfl⟩
   rw [← hm0] at hpl
   have HM:Hid (m0=(putN tg.toNat).length):=hm0
   clear HO hpu hm0
   go_enter Tryz.func150,Tryz.ntmps150
   go_wp2_with fail
   refine (implPutNum_any tg _ (by omega)).mono ?_
   rintro e w3 ⟨a3,c3,rfl,ho3,hb3⟩
   rw [HPU.out,← HM.out] at ho3 ⊢
   have hO3:=HO2.out.kept hb3
   have hB3:Below w.heap.size w w3:=hB2.trans (hb3.mono hB2.size)
   have hs3:=hB3.size
   go_wp2_with (at_builtin; refine wpList_append_row _ rfl (.tmp 29) (.tmp 32) 32 rfl w.heap.size i0 Tryz.underlying32 hi hz0 hz1 hz2 _ _ _ rfl hO3.row a3 m0 c3 (putN tg.toNat) rfl ho3.toRow ho3.nil (by omega) hs3 ?_; intro v4 w4 hv4 hg4; obtain ⟨a4,c4,rfl,ho4⟩:=own_appended (xs:=[cl * 64+31]) (ys:=putN tg.toNat) hv4 hO3.byte ho3.byte; have hB4:Below w.heap.size w w4:=below_appended hB3 hs3 hO3.row hg4)
   refine (lengthBytes_any n _ hn).mono ?_
   rintro e w5 ⟨a5,c5,rfl,ho5,hb5⟩
   have hO5:=ho4.kept hb5
   have hB5:Below w.heap.size w w5:=hB4.trans (hb5.mono hB4.size)
   have hs5:=hB5.size
   have hll:=lenL_len n
   go_wp2_with (at_builtin; refine wpList_append_row _ rfl (.tmp 34) (.tmp 36) 32 rfl w.heap.size i0 Tryz.underlying32 hi hz0 hz1 hz2 _ _ _ rfl hO5.row a5 _ c5 (lenL n) rfl ho5.toRow ho5.nil (by omega) hs5 ?_; intro v6 w6 hv6 hg6)
   obtain ⟨a6,c6,rfl,ho6⟩:=own_appended (xs:=[cl * 64+31]++putN tg.toNat) (ys:=lenL n) hv6 hO5.byte ho5.byte
   have hB6:Below w.heap.size w w6:=below_appended hB5 hs5 hO5.row hg6
   have HL:Hid (([cl * 64+31]++putN tg.toNat++lenL n).length=1+m0+(lenL n).length):=by show _=_; rw [List.length_append,List.length_append,HM.out]; rfl
   go_ret
   exact ⟨a6,c6,by rw [EL.out,HL.out]; rfl,by rw [EL.out,HL.out]; exact ho6,hB6⟩
def encK (f:It→Option (List Int)):List Int→List It→Option (List Int)
 | acc,[]=>some acc
 | acc,x::xs=>match f x with
  | none=>none
  | some p=>if acc.length+p.length≤20000 then encK f (acc++p) xs else none
def innerBy (f:It→Option (List Int))(x:It):Option (List Int):=if x.cons then encK f [] x.kids else if x.body.length≤20000 then some x.body else none
def enc:Nat→It→Option (List Int)
 | 0,_=>none
 | r+1,x=>if x.shape then
   match innerBy (enc r) x with
   | none=>none
   | some inner=>if (headL x inner.length++inner).length≤20000 then some (headL x inner.length++inner) else none
  else none
theorem encK_len (f:It→Option (List Int))(xs:List It):∀ acc l,acc.length≤20000→encK f acc xs=some l→l.length≤20000:=by
 induction xs with
 | nil=>intro acc l h e; simp [encK] at e; subst e; exact h
 | cons x xs ih =>
  intro acc l h e
  simp only [encK] at e
  split at e
  ·cases e
  ·split at e
   ·exact ih _ _ (by rw [List.length_append]; assumption) e
   ·cases e
theorem innerBy_len (f:It→Option (List Int))(x:It)(l:List Int)(h:innerBy f x=some l):l.length≤20000:=by
 unfold innerBy at h
 split at h
 ·exact encK_len f _ _ _ (by simp) h
 ·split at h
  ·simp at h; subst h; assumption
  ·cases h
theorem enc_len (r:Nat)(x:It)(l:List Int)(h:enc r x=some l):l.length≤20000:=by
 cases r with
 | zero=>simp [enc] at h
 | succ r =>
  simp only [enc] at h
  split at h
  ·split at h
   ·cases h
   ·split at h
    ·simp at h; subst h; assumption
    ·cases h
  ·cases h
theorem drop_get (xs:List It)(k:Nat)(h:k<xs.length):xs.drop k=xs.getD k default::xs.drop (k+1):=by
 rw [List.drop_eq_getElem_cons h]
 simp [h]
theorem encK_next (f:It→Option (List Int))(xs:List It)(k:Nat)(h:k<xs.length)(acc p:List Int)(hp:f (xs.getD k default)=some p)(hl:acc.length+p.length≤20000):encK f acc (xs.drop k)=encK f (acc++p) (xs.drop (k+1)):=by
 rw [drop_get xs k h,encK,hp]
 simp [hl]
theorem encK_none (f:It→Option (List Int))(xs:List It)(k:Nat)(h:k<xs.length)(acc:List Int)(hp:f (xs.getD k default)=none):encK f acc (xs.drop k)=none:=by
 rw [drop_get xs k h,encK,hp]
theorem encK_long (f:It→Option (List Int))(xs:List It)(k:Nat)(h:k<xs.length)(acc p:List Int)(hp:f (xs.getD k default)=some p)(hl:¬ acc.length+p.length≤20000):encK f acc (xs.drop k)=none:=by
 rw [drop_get xs k h,encK,hp]
 simp only [if_neg hl]
theorem encK_end (f:It→Option (List Int))(xs:List It)(k:Nat)(h:xs.length≤k)(acc:List Int):encK f acc (xs.drop k)=some acc:=by
 rw [List.drop_eq_nil_of_le h,encK]
theorem shape_bounds {x:It}(h:x.shape=true):(0≤x.cls∧x.cls≤3)∧0≤x.tag∧x.tag≤268435455:=by
 unfold It.shape at h
 simp only [Bool.and_eq_true,decide_eq_true_eq] at h
 omega
def AnsI (B:Nat)(o:Option (List Int))(e:Ending)(w':World):Prop :=
 (∃ a n cap bs,e=.returned (.tuple #[.slice a n cap,.bool true])∧Hid (o=some bs)∧Own B w' a n cap bs)∨(e=.returned (.tuple #[.slice none 0 0,.bool false])∧Hid (o=none))
theorem heap_kept {B:Nat}{w w':World}(h:Below B w w'){g:Nat}(hg:g<B){o:Obj}(e:w.heap[g]? = some o):w'.heap[g]? = some o:=(h.block g hg).trans e
def BytesAt (d:Nat):Prop:=∀ (r:Nat) (D:Int) (x:It) (ab:Option Addr) (nb cb:Nat) (ak:Option Addr) (nk ck:Nat) (w:World),r≤12→D=13 - (r:Int)→Row w ab nb x.body→(ab=none→cb=0)→nb≤9223372036854775807→Kids d w ak nk x.kids →
  Calls Tryz.prog 100 #[itv x ab nb cb ak nk ck,.int .i64 D] w fun e w'=>AnsI w.heap.size (enc r x) e w'∧Below w.heap.size w w'
def InnerAns (o:Option (List Int))(e:Ending)(w':World):Prop :=
 (∃ a n cap bs,e=.returned (.tuple #[.slice a n cap,.bool true])∧Hid (o=some bs)∧Row w' a n bs∧(a=none→cap=0))∨(∃ a n cap,e=.returned (.tuple #[.slice a n cap,.bool false])∧Hid (o=none))
theorem own_nilI (B:Nat)(w:World):Own B w none 0 0 []:=⟨World.ownsRow_nil w B 5 1,by simp⟩
theorem Own.alloc {B:Nat}{w:World}{a:Option Addr}{n cap:Nat}{bs:List Int}(h:Own B w a n cap bs)(o:Obj):Own B (w.alloc o) a n cap bs:=⟨h.row.alloc o,h.byte⟩
theorem innerBytes_any (d:Nat)(ih:BytesAt d)(r:Nat)(D:Int)(x:It)(ab:Option Addr)(nb cb:Nat)(ak:Option Addr)(nk ck:Nat)(w:World)(hr:r<12)(hD:D=12 - (r:Int))(hrow:Row w ab nb x.body)(hnil:ab=none→cb=0)(hnb:nb≤9223372036854775807)(hk:Kids (d+1) w ak nk x.kids) :
  Calls Tryz.prog 149 #[itv x ab nb cb ak nk ck,.int .i64 D] w fun e w'=>InnerAns (innerBy (enc r) x) e w'∧Below w.heap.size w w':=by
 obtain ⟨i0,hi,hz0,hz1,hz2⟩:=info_parts Tryz.info5
 have HR:Hid (Row w ab nb x.body):=hrow
 have HK:Hid (Kids (d+1) w ak nk x.kids):=hk
 have HL:Hid (x.kids.length=nk):=hk.1
 have hnk:=hk.2.1
 have HD:Hid (D=12 - (r:Int)):=hD
 have d1:0≤D:=by omega
 have d2:D≤12:=by omega
 clear hrow hk hD
 have hbl:Below w.heap.size w (w.alloc (.cells #[.int .i64 x.cls,.int .i64 x.tag,.bool x.cons,.slice ab nb cb,.slice ak nk ck] 75)):=(Below.refl _ _).alloc (Nat.le_refl _) _
 obtain ⟨co,hco⟩:∃ co,co=x.cons:=⟨_,rfl⟩
 have HC:Hid (co=x.cons):=hco
 unfold itv
 rw [← hco] at hbl ⊢
 clear hco
 cases co with
 | false =>
  by_cases h2:nb≤20000
  ·have hI:Hid (innerBy (enc r) x=some x.body):=by show _=_; rw [innerBy,if_neg (by rw [← HC.out]; decide),if_pos (by rw [HR.out.len]; exact h2)]
   have h2':(nb:Int)≤20000:=by omega
   go_enter Tryz.func149,Tryz.ntmps149
   go_wp2
   go_quiet (fail)
   go_wp2
   go_ret2
   exact ⟨.inl ⟨ab,nb,cb,x.body,rfl,hI,HR.out.kept (below_drewN hbl nq),hnil⟩,below_drewN hbl nq⟩
  ·have hI:Hid (innerBy (enc r) x=none):=by show _=_; rw [innerBy,if_neg (by rw [← HC.out]; decide),if_neg (by rw [HR.out.len]; exact h2)]
   have h2':¬ (nb:Int)≤20000:=by omega
   go_enter Tryz.func149,Tryz.ntmps149
   go_wp2
   go_quiet (fail)
   go_wp2
   go_ret2
   exact ⟨.inr ⟨ab,nb,cb,by show Ending.returned (.tuple #[.slice ab nb cb,.bool (decide ((nb:Int)≤20000))])=_; rw [decide_eq_false (by omega)],hI⟩,below_drewN hbl nq⟩
 | true =>
  have hI:Hid (innerBy (enc r) x=encK (enc r) [] x.kids):=by show _=_; rw [innerBy,if_pos (by rw [← HC.out])]
  go_enter Tryz.func149,Tryz.ntmps149
  go_wp2
  go_loopw [6,23] (fun o i wr=>∃ (k m c:Nat) (ao:Option Addr) (acc:List Int),k≤nk∧i=.int .i64 k∧o=.slice ao m c∧Own w.heap.size wr ao m c acc∧m≤20000∧Hid (encK (enc r) [] x.kids=encK (enc r) acc (x.kids.drop k))∧Below w.heap.size w wr) (fun _ i _=>nk - (intOf i).toNat)
  case atStart=>exact ⟨0,0,0,none,[],Nat.zero_le _,rfl,rfl,own_nilI _ _,by decide,(by show _=_; rw [List.drop_zero]),hbl⟩
  case round =>
   obtain ⟨k,m,c,ao,acc,hk,rfl,rfl,hor,hm,hE,hbr⟩:=hrel
   by_cases hkn:k<nk
   ·obtain ⟨b,off,rfl,hlb,ab1,nb1,cb1,ak1,nk1,ck1,c0,c1,c2,c3,c4,hr1,hn1,hm1,hk1⟩:=HK.out.2.2 k hkn
    obtain ⟨y,hy⟩:∃ y,y=x.kids.getD k default:=⟨_,rfl⟩
    rw [← hy] at c0 c1 c2 hr1 hk1
    have HY:Hid (y=x.kids.getD k default):=hy
    have cc:∀ j,wr.cell? ⟨b,j,none⟩=w.cell? ⟨b,j,none⟩:=fun j=>hbr.cell (p:=⟨b,j,none⟩) hlb
    rw [← cc] at c0 c1 c2 c3 c4
    clear cc hy
    have hkni:(k:Int)<(nk:Int):=by omega
    have hs:=hbr.size
    have hbk:Below w.heap.size w (wr.alloc (.cells #[.int .i64 y.cls,.int .i64 y.tag,.bool y.cons,.slice ab1 nb1 cb1,.slice ak1 nk1 ck1] 75)):=hbr.alloc hs _
    have R1:Hid (_):=hr1.kept hbk
    have K1:Hid (_):=hk1.kept hbk
    clear hr1 hk1
    go_wp2_with fail
    refine (ih r (D+1) y ab1 nb1 cb1 ak1 nk1 ck1 _ (by omega) (by have:=HD.out; omega) R1.out hn1 hm1 K1.out).mono ?_
    rintro e w2 ⟨hans,hb2⟩
    have hb2':Below w.heap.size w w2:=hbk.trans (hb2.mono hbk.size)
    rcases hans with ⟨a2,n2,c2',bs2,rfl,he2,ho2⟩ | ⟨rfl,he2⟩
    ·have hl2:n2≤20000:=by rw [← ho2.length]; exact enc_len r y bs2 he2.out
     have hor2:=(hor.alloc (.cells #[.int .i64 y.cls,.int .i64 y.tag,.bool y.cons,.slice ab1 nb1 cb1,.slice ak1 nk1 ck1] 75)).kept hb2
     have hla:=hor.length
     have hlb2:=ho2.length
     have LA:Hid (acc.length=m):=hla
     have LB:Hid (bs2.length=n2):=hlb2
     have HF:Hid (enc r (x.kids.getD k default)=some bs2):=by show _=_; rw [← HY.out]; exact he2.out
     have hkl:Hid (k<x.kids.length):=by show _<_; rw [HL.out]; exact hkn
     clear hla hlb2 hbk hb2 hor
     by_cases hlong:m+n2≤20000
     ·have h3:¬ (m:Int)+(n2:Int) > 20000:=by omega
      have HN:Hid (encK (enc r) [] x.kids=encK (enc r) (acc++bs2) (x.kids.drop (k+1))):=by show _=_; rw [hE.out]; exact encK_next (enc r) x.kids k hkl.out acc bs2 HF.out (by rw [LA.out,LB.out]; exact hlong)
      go_wp2_with (at_builtin; refine wpList_append_row _ rfl (.tmp 44) (.tmp 45) 32 rfl w.heap.size i0 Tryz.underlying32 hi hz0 hz1 hz2 _ _ _ rfl hor2.row a2 n2 c2' bs2 rfl ho2.toRow ho2.nil (by omega) hb2'.size ?_; intro v3 w3 hv3 hg3)
      obtain ⟨a3,c3,rfl,ho3⟩:=own_appended (xs:=acc) (ys:=bs2) hv3 hor2.byte ho2.byte
      have hb3:Below w.heap.size w w3:=below_appended hb2' hb2'.size hor2.row hg3
      go_wp2
      go_roundw
      case rel=>exact ⟨k+1,m+n2,c3,a3,acc++bs2,by omega,by go_num,rfl,ho3,hlong,HN,hb3⟩
      case measure=>simp [intOf]; omega
     ·have h3:(m:Int)+(n2:Int) > 20000:=by omega
      have HN:Hid (innerBy (enc r) x=none):=by show _=_; rw [hI.out,hE.out]; exact encK_long (enc r) x.kids k hkl.out acc bs2 HF.out (by rw [LA.out,LB.out]; exact hlong)
      go_wp2
      go_ret2
      exact ⟨.inr ⟨none,0,0,rfl,HN⟩,hb2'⟩
    ·have HN:Hid (innerBy (enc r) x=none):=by show _=_; rw [hI.out,hE.out]; exact encK_none (enc r) x.kids k (by rw [HL.out]; exact hkn) acc (by rw [← HY.out]; exact he2.out)
     go_wp2
     go_ret2
     exact ⟨.inr ⟨none,0,0,rfl,HN⟩,hb2'⟩
   ·obtain rfl:nk=k:=by omega
    have HE:Hid (innerBy (enc r) x=some acc):=by show _=_; rw [hI.out,hE.out,encK_end _ _ _ (by rw [HL.out]; exact Nat.le_refl _)]
    go_wp2
    go_ret2
    exact ⟨.inl ⟨ao,m,c,acc,rfl,HE,hor.toRow,hor.nil⟩,hbr⟩
theorem headL_len (x:It)(n:Nat)(h:0≤x.tag∧x.tag≤268435455):(headL x n).length≤14:=by
 unfold headL
 have:=lenL_len n
 rw [List.length_append]
 split
 ·simp; omega
 ·have hpl:(putN x.tag.toNat).length≤9:=by rw [putN,putL_len]; exact cnt_le _ (by omega)
  simp; omega
theorem enc_none (r:Nat)(x:It)(hs:x.shape=true)(h:innerBy (enc r) x=none):enc (r+1) x=none:=by
 simp [enc,hs,h]
theorem enc_long (r:Nat)(x:It)(inner:List Int)(hs:x.shape=true)(h:innerBy (enc r) x=some inner)(hl:¬ (headL x inner.length++inner).length≤20000):enc (r+1) x=none:=by
 simp only [enc,hs,h,if_true,if_neg hl]
theorem enc_some (r:Nat)(x:It)(inner:List Int)(hs:x.shape=true)(h:innerBy (enc r) x=some inner)(hl:(headL x inner.length++inner).length≤20000):enc (r+1) x=some (headL x inner.length++inner):=by
 simp only [enc,hs,h,if_true,if_pos hl]
theorem enc_shape (r:Nat)(x:It)(hs:x.shape=false):enc (r+1) x=none:=by
 simp [enc,hs]
theorem bytesAt_next (d:Nat)(ih:BytesAt d):BytesAt (d+1):=by
 intro r D x ab nb cb ak nk ck w hr hD hrow hnil hnb hk
 obtain ⟨i0,hi,hz0,hz1,hz2⟩:=info_parts Tryz.info5
 have HR:Hid (Row w ab nb x.body):=hrow
 have HK:Hid (Kids (d+1) w ak nk x.kids):=hk
 have HL:Hid (x.kids.length=nk):=hk.1
 have hnk:=hk.2.1
 have d1:0≤D:=by omega
 have d2:D≤13:=by omega
 have HD:Hid (D=13 - (r:Int)):=hD
 clear hrow hk hD
 have hbl:Below w.heap.size w (w.alloc (.cells #[.int .i64 x.cls,.int .i64 x.tag,.bool x.cons,.slice ab nb cb,.slice ak nk ck] 75)):=(Below.refl _ _).alloc (Nat.le_refl _) _
 cases r with
 | zero =>
  have h12:D > 12:=by have:=HD.out; omega
  have HE:Hid (enc 0 x=none):=by show _=_; rw [enc]
  unfold itv
  go_enter Tryz.func100,Tryz.ntmps100
  go_wp2
  go_ret2
  exact ⟨.inr ⟨rfl,HE⟩,hbl⟩
 | succ r =>
  have h12:¬ D > 12:=by have:=HD.out; omega
  have kc:∀ (W:World),Below (w.heap.size+1) (w.alloc (.cells #[.int .i64 x.cls,.int .i64 x.tag,.bool x.cons,.slice ab nb cb,.slice ak nk ck] 75)) W→W.heap[w.heap.size]? = some (.cells #[.int .i64 x.cls,.int .i64 x.tag,.bool x.cons,.slice ab nb cb,.slice ak nk ck] 75 (0,0)):=fun W hW=>(hW.block w.heap.size (by omega)).trans (heap_alloc_new w _)
  unfold itv
  go_enter Tryz.func100,Tryz.ntmps100
  go_wp2_with fail
  refine (shapeOk_any x ab nb cb ak nk ck _ HR.out.len HL.out).mono ?_
  rintro e w1 ⟨rfl,hb1⟩
  have hb1':Below w.heap.size w w1:=hbl.trans (hb1.mono hbl.size)
  have KC:Hid (_):=kc
  have e1:=kc w1 (hb1.mono (by simp))
  have hs1:=hb1.size
  simp at hs1
  clear kc
  obtain ⟨sh,hsh⟩:∃ sh,sh=x.shape:=⟨_,rfl⟩
  have HSH:Hid (sh=x.shape):=hsh
  rw [← hsh]
  clear hsh
  cases sh with
  | false =>
   have HE:Hid (enc (r+1) x=none):=by show _=_; exact enc_shape r x HSH.out.symm
   go_wp2
   go_ret2
   exact ⟨.inr ⟨rfl,HE⟩,hb1'⟩
  | true =>
   have c0:w1.cell? ⟨w.heap.size,0,none⟩=some (.int .i64 x.cls):=qk e1 rfl
   have c1:w1.cell? ⟨w.heap.size,1,none⟩=some (.int .i64 x.tag):=qk e1 rfl
   have c2:w1.cell? ⟨w.heap.size,2,none⟩=some (.bool x.cons):=qk e1 rfl
   have c3:w1.cell? ⟨w.heap.size,3,none⟩=some (.slice ab nb cb):=qk e1 rfl
   have c4:w1.cell? ⟨w.heap.size,4,none⟩=some (.slice ak nk ck):=qk e1 rfl
   have E1:Hid (_=_):=e1
   clear e1
   go_wp2_with fail
   refine (innerBytes_any d ih r D x ab nb cb ak nk ck _ (by omega) (by have:=HD.out; omega) (HR.out.kept hb1') hnil hnb (HK.out.kept hb1')).mono ?_
   rintro e w2 ⟨hans,hb2⟩
   have e2:=heap_kept hb2 (by omega) E1.out
   have hb2':Below w.heap.size w w2:=hb1'.trans (hb2.mono hb1'.size)
   have hs2:=hb2.size
   clear c0 c1 c2 c3 c4 hb1
   rcases hans with ⟨a3,n3,c3',inner,rfl,hin,hr3,hn3⟩ | ⟨a3,n3,c3',rfl,hin⟩
   ·have c0:w2.cell? ⟨w.heap.size,0,none⟩=some (.int .i64 x.cls):=qk e2 rfl
    have c1:w2.cell? ⟨w.heap.size,1,none⟩=some (.int .i64 x.tag):=qk e2 rfl
    have c2:w2.cell? ⟨w.heap.size,2,none⟩=some (.bool x.cons):=qk e2 rfl
    have c3:w2.cell? ⟨w.heap.size,3,none⟩=some (.slice ab nb cb):=qk e2 rfl
    have c4:w2.cell? ⟨w.heap.size,4,none⟩=some (.slice ak nk ck):=qk e2 rfl
    have hil:n3≤20000:=by rw [← hr3.len]; exact innerBy_len _ _ _ hin.out
    have hsb:=shape_bounds HSH.out.symm
    have LI:Hid (inner.length=n3):=hr3.len
    clear e2
    go_wp2_with fail
    refine (itemHead_any x ab nb cb ak nk ck n3 _ hsb.1 hsb.2 (by omega)).mono ?_
    rintro e w3 ⟨a4,c4',rfl,ho4,hb3⟩
    have hh:=headL_len x n3 hsb.2
    obtain ⟨hd,hhd⟩:∃ hd,hd=headL x n3:=⟨_,rfl⟩
    have HHD:Hid (hd=headL x n3):=hhd
    rw [← hhd] at ho4 hh ⊢
    clear hhd hsb c0 c1 c2 c3 c4
    obtain ⟨nh,hnh⟩:∃ nh,nh=hd.length:=⟨_,rfl⟩
    have HNH:Hid (nh=hd.length):=hnh
    rw [← hnh] at ho4 hh ⊢
    clear hnh
    have hb3':Below w.heap.size w w3:=hb2'.trans (hb3.mono hb2'.size)
    have hr4:=hr3.kept hb3
    have hs3:=hb2'.size
    have hs3':=hb3'.size
    have ho4':=ho4.mono hs3
    have hll:Hid ((headL x inner.length++inner).length=nh+n3):=by show _=_; rw [List.length_append,LI.out,← HHD.out,← HNH.out]
    by_cases hlong:nh+n3≤20000
    ·have h3:¬ (nh:Int)+(n3:Int) > 20000:=by omega
     have HE:Hid (enc (r+1) x=some (hd++inner)):=by
      show _=_
      rw [enc_some r x inner HSH.out.symm hin.out (by rw [hll.out]; exact hlong),LI.out,← HHD.out]
     go_wp2_with (at_builtin; refine wpList_append_row _ rfl (.tmp 27) (.tmp 28) 32 rfl w.heap.size i0 Tryz.underlying32 hi hz0 hz1 hz2 _ _ _ rfl ho4'.row a3 n3 c3' inner rfl hr4 hn3 (by omega) hs3' ?_; intro v5 w5 hv5 hg5; obtain ⟨a5,c5,rfl,ho5⟩:=own_appended (xs:=hd) (ys:=inner) hv5 ho4'.byte hr4.byte; have hb5:Below w.heap.size w w5:=below_appended hb3' hs3' ho4'.row hg5)
     go_ret2
     exact ⟨.inl ⟨a5,_,c5,_,rfl,HE,ho5⟩,hb5⟩
    ·have h3:(nh:Int)+(n3:Int) > 20000:=by omega
     have HE:Hid (enc (r+1) x=none):=by show _=_; exact enc_long r x inner HSH.out.symm hin.out (by rw [hll.out]; exact hlong)
     go_wp2_with (at_builtin; refine wpList_append_row _ rfl (.tmp 27) (.tmp 28) 32 rfl w.heap.size i0 Tryz.underlying32 hi hz0 hz1 hz2 _ _ _ rfl ho4'.row a3 n3 c3' inner rfl hr4 hn3 (by omega) hs3' ?_; intro v5 w5 hv5 hg5; obtain ⟨a5,c5,rfl,ho5⟩:=own_appended (xs:=hd) (ys:=inner) hv5 ho4'.byte hr4.byte; have hb5:Below w.heap.size w w5:=below_appended hb3' hs3' ho4'.row hg5)
     go_ret2
     exact ⟨.inr ⟨rfl,HE⟩,hb5⟩
   ·have HE:Hid (enc (r+1) x=none):=by show _=_; exact enc_none r x HSH.out.symm hin.out
    go_wp2
    go_ret2
    exact ⟨.inr ⟨rfl,HE⟩,hb2'⟩
theorem bytesAt_all (d:Nat):BytesAt d:=by
 induction d with
 | zero=>intro r D x ab nb cb ak nk ck w _ _ _ _ _ h; exact h.elim
 | succ d ih=>exact bytesAt_next d ih
end Go.Proofs.YtmdfbnlgfhjnoaaGreatDoor
