import Derived.Test.YtnmplldhdfingaaGreatDoorFG13
set_option maxRecDepth 10000
set_option maxHeartbeats 8000000
set_option linter.unusedVariables false
namespace Go.Proofs.YtnmplldhdfingaaGreatDoor
open Go.RowKit
theorem own_new {B:Nat}(w:World)(h:B≤w.heap.size)(x:Int)(hx:0≤x∧x≤255):Row (w.alloc (.cells #[.int .u8 x] 5)) (some ⟨w.heap.size,0,none⟩) 1 [x]:=(own_one B w w.heap.size rfl h x hx).toRow
theorem one_byte (x:Int)(hx:0≤x∧x≤255):∀ k,0≤[x].getD k 0∧[x].getD k 0≤255:=fun k=>by match k with | 0=>simpa using hx | k+1=>simp
theorem l2Head_any (x:It)(ab:Option Addr)(nb cb:Nat)(ak:Option Addr)(nk ck:Nat)(n:Nat)(w:World)(h1:0≤x.cls∧x.cls≤3)(h2:0≤x.tag∧x.tag≤268435455)(hn:n<16777216) :
  Calls Tryz.prog 98 #[itv x ab nb cb ak nk ck,.int .i64 n] w fun e w'=>∃ a cap,e=.returned (.slice a (headL x n).length cap)∧Own w.heap.size w' a (headL x n).length cap (headL x n)∧Below w.heap.size w w':=by
 obtain ⟨i0,hi,hz0,hz1,hz2⟩:=info_parts Tryz.info5
 obtain ⟨cl,tg,co,bo,ks⟩:=x
 simp only [It.cls,It.tag,itv,It.cons] at h1 h2 ⊢
 obtain ⟨c0,c1⟩:=h1
 obtain ⟨t0,t1⟩:=h2
 cases co with
 | true =>
  have hfo:firstOf cl true=64 * cl+32:=by simp [firstOf]
  have hbl:Below w.heap.size w (w.alloc (.cells #[.int .i64 cl,.int .i64 tg,.bool true,.slice ab nb cb,.slice ak nk ck] 94)):=(Below.refl _ _).alloc (Nat.le_refl _) _
  have hw1:IntKind.u8.wrap (64 * cl+32+31)=64 * cl+32+31:=by rw [IntKind.wrap_u8]; omega
  have hB1:Below w.heap.size w ((w.alloc (.cells #[.int .i64 cl,.int .i64 tg,.bool true,.slice ab nb cb,.slice ak nk ck] 94)).alloc (.cells #[.int .u8 (64 * cl+32+31)] 5)):=hbl.alloc (by simp) _
  by_cases ht:tg<31
  ·have el:headL (.mk cl tg true bo ks) n = [64 * cl+32+tg]++lenL n:=by show (if tg<31 then [firstOf cl true+tg] else (firstOf cl true+31)::putN tg.toNat)++lenL n=_; rw [if_pos ht,hfo]
   have hw2:IntKind.u8.wrap (64 * cl+32+tg)=64 * cl+32+tg:=by rw [IntKind.wrap_u8]; omega
   have hB0:Below w.heap.size w (((w.alloc (.cells #[.int .i64 cl,.int .i64 tg,.bool true,.slice ab nb cb,.slice ak nk ck] 94)).alloc (.cells #[.int .u8 (64 * cl+32+31)] 5)).alloc (.cells #[.int .u8 (64 * cl+32+tg)] 5)):=hB1.alloc (by simp; omega) _
   have HO0:Hid (Own w.heap.size (((w.alloc (.cells #[.int .i64 cl,.int .i64 tg,.bool true,.slice ab nb cb,.slice ak nk ck] 94)).alloc (.cells #[.int .u8 (64 * cl+32+31)] 5)).alloc (.cells #[.int .u8 (64 * cl+32+tg)] 5)) (some ⟨w.heap.size+1+1,0,none⟩) 1 1 [64 * cl+32+tg]):=own_one w.heap.size ((w.alloc (.cells #[.int .i64 cl,.int .i64 tg,.bool true,.slice ab nb cb,.slice ak nk ck] 94)).alloc (.cells #[.int .u8 (64 * cl+32+31)] 5)) _ (by simp) (by simp; omega) (64 * cl+32+tg) (by omega)
   have EL:Hid (_=_):=el
   clear el hfo
   by_cases hA:n<128
   ·have hA':(n:Int)<128:=by omega
    have hwn:IntKind.u8.wrap (n:Int)=n:=by rw [IntKind.wrap_u8]; omega
    have LN:Hid (lenL n = [(n:Int)]):=by show _=_; rw [lenL,if_pos hA]
    go_enter Tryz.func98,Tryz.ntmps98
    go_wp2_with (first | (at_builtin; refine wpList_append_row _ rfl (.tmp 36) (.tmp 39) 26 rfl w.heap.size i0 Tryz.underlying26 hi hz0 hz1 hz2 _ _ _ rfl (HO0.out.alloc (.cells #[.int .u8 ((n:Int))] 5)).row _ 1 1 [(n:Int)] rfl (own_one w.heap.size (((w.alloc (.cells #[.int .i64 cl,.int .i64 tg,.bool true,.slice ab nb cb,.slice ak nk ck] 94)).alloc (.cells #[.int .u8 (64 * cl+32+31)] 5)).alloc (.cells #[.int .u8 (64 * cl+32+tg)] 5)) (w.heap.size+1+1+1) (by simp) hB0.size ((n:Int)) (by omega)).toRow (by simp) (by omega) (hB0.alloc hB0.size _).size ?_; intro v3 w3 hv3 hg3; obtain ⟨a3,c3,rfl,ho3⟩:=own_appended (xs:=[64 * cl+32+tg]) (ys:=[(n:Int)]) hv3 (HO0.out.alloc (.cells #[.int .u8 ((n:Int))] 5)).byte (one_byte _ (by omega)); have hb3:Below w.heap.size w w3:=below_appended (hB0.alloc hB0.size _) (hB0.alloc hB0.size _).size (HO0.out.alloc (.cells #[.int .u8 ((n:Int))] 5)).row hg3))
    go_ret
    have HL:Hid (([64 * cl+32+tg]++lenL n).length=1+1):=by show _=_; rw [LN.out]; simp
    exact ⟨a3,c3,by rw [EL.out,HL.out]; rfl,by rw [EL.out,HL.out,LN.out]; exact ho3,hb3⟩
   ·have hA':¬ (n:Int)<128:=by omega
    by_cases hB:n<256
    ·have q1:(n:Int) / 256≤0:=by omega
     have hwn:IntKind.u8.wrap (n:Int)=n:=by rw [IntKind.wrap_u8]; omega
     have LN:Hid (lenL n = [129,(n:Int)]):=by show _=_; rw [lenL,if_neg hA,if_pos hB]
     go_enter Tryz.func98,Tryz.ntmps98
     go_wp2_with fail
     refine wp_loop_rounds 9 ?_
     rw [rounds_succ]
     go_wp2_with (first | (at_builtin; refine wpList_append_row _ rfl (.tmp 49) (.tmp 53) 26 rfl w.heap.size i0 Tryz.underlying26 hi hz0 hz1 hz2 _ _ _ rfl (HO0.out.alloc (.cells #[.int .u8 (129)] 5)).row _ 1 1 [129] rfl (own_one w.heap.size (((w.alloc (.cells #[.int .i64 cl,.int .i64 tg,.bool true,.slice ab nb cb,.slice ak nk ck] 94)).alloc (.cells #[.int .u8 (64 * cl+32+31)] 5)).alloc (.cells #[.int .u8 (64 * cl+32+tg)] 5)) (w.heap.size+1+1+1) (by simp) hB0.size (129) (by omega)).toRow (by simp) (by omega) (hB0.alloc hB0.size _).size ?_; intro v3 w3 hv3 hg3; obtain ⟨a3,c3,rfl,ho3⟩:=own_appended (xs:=[64 * cl+32+tg]) (ys:=[129]) hv3 (HO0.out.alloc (.cells #[.int .u8 (129)] 5)).byte (one_byte _ (by omega)); have hb3:Below w.heap.size w w3:=below_appended (hB0.alloc hB0.size _) (hB0.alloc hB0.size _).size (HO0.out.alloc (.cells #[.int .u8 (129)] 5)).row hg3))
     refine wp_loop_rounds 9 ?_
     rw [rounds_succ]
     go_wp2_with (first | (at_builtin; refine wpList_append_row _ rfl (.tmp 61) (.tmp 68) 26 rfl w.heap.size i0 Tryz.underlying26 hi hz0 hz1 hz2 _ _ _ rfl (ho3.alloc (.cells #[.int .u8 ((n:Int))] 5)).row _ 1 1 [(n:Int)] rfl (own_new w3 hb3.size ((n:Int)) (by omega)) (by simp) (by omega) (hb3.alloc hb3.size _).size ?_; intro v4 w4 hv4 hg4; obtain ⟨a4,c4,rfl,ho4⟩:=own_appended (xs:=([64 * cl+32+tg]++[129])) (ys:=[(n:Int)]) hv4 (ho3.alloc (.cells #[.int .u8 ((n:Int))] 5)).byte (one_byte _ (by omega)); have hb4:Below w.heap.size w w4:=below_appended (hb3.alloc hb3.size _) (hb3.alloc hb3.size _).size (ho3.alloc (.cells #[.int .u8 ((n:Int))] 5)).row hg4))
     rw [rounds_succ]
     go_wp2
     go_ret
     have HL:Hid (([64 * cl+32+tg]++lenL n).length=1+1+1):=by show _=_; rw [LN.out]; simp
     have HX:Hid ([64 * cl+32+tg]++lenL n=(([64 * cl+32+tg]++[129])++[(n:Int)])):=by show _=_; rw [LN.out]; simp
     exact ⟨a4,c4,by rw [EL.out,HL.out]; rfl,by rw [EL.out,HL.out,HX.out]; exact ho4,hb4⟩
    ·by_cases hC:n<65536
     ·have q1:0<(n:Int) / 256:=by omega
      have q2:(n:Int) / 65536≤0:=by omega
      have hwa:IntKind.u8.wrap ((n:Int) / 256)=(n:Int) / 256:=by rw [IntKind.wrap_u8]; omega
      have hwn:IntKind.u8.wrap (n:Int)=(n:Int) % 256:=by rw [IntKind.wrap_u8]
      have LN:Hid (lenL n = [130,(n:Int) / 256,(n:Int) % 256]):=by show _=_; rw [lenL,if_neg hA,if_neg hB,if_pos hC]
      go_enter Tryz.func98,Tryz.ntmps98
      go_wp2_with fail
      refine wp_loop_rounds 9 ?_
      rw [rounds_succ]
      go_wp2
      rw [rounds_succ]
      go_wp2_with (first | (at_builtin; refine wpList_append_row _ rfl (.tmp 49) (.tmp 53) 26 rfl w.heap.size i0 Tryz.underlying26 hi hz0 hz1 hz2 _ _ _ rfl (HO0.out.alloc (.cells #[.int .u8 (130)] 5)).row _ 1 1 [130] rfl (own_one w.heap.size (((w.alloc (.cells #[.int .i64 cl,.int .i64 tg,.bool true,.slice ab nb cb,.slice ak nk ck] 94)).alloc (.cells #[.int .u8 (64 * cl+32+31)] 5)).alloc (.cells #[.int .u8 (64 * cl+32+tg)] 5)) (w.heap.size+1+1+1) (by simp) hB0.size (130) (by omega)).toRow (by simp) (by omega) (hB0.alloc hB0.size _).size ?_; intro v3 w3 hv3 hg3; obtain ⟨a3,c3,rfl,ho3⟩:=own_appended (xs:=[64 * cl+32+tg]) (ys:=[130]) hv3 (HO0.out.alloc (.cells #[.int .u8 (130)] 5)).byte (one_byte _ (by omega)); have hb3:Below w.heap.size w w3:=below_appended (hB0.alloc hB0.size _) (hB0.alloc hB0.size _).size (HO0.out.alloc (.cells #[.int .u8 (130)] 5)).row hg3))
      refine wp_loop_rounds 9 ?_
      rw [rounds_succ]
      go_wp2_with (first | (at_builtin; refine wpList_append_row _ rfl (.tmp 61) (.tmp 68) 26 rfl w.heap.size i0 Tryz.underlying26 hi hz0 hz1 hz2 _ _ _ rfl (ho3.alloc (.cells #[.int .u8 ((n:Int) / 256)] 5)).row _ 1 1 [(n:Int) / 256] rfl (own_new w3 hb3.size ((n:Int) / 256) (by omega)) (by simp) (by omega) (hb3.alloc hb3.size _).size ?_; intro v4 w4 hv4 hg4; obtain ⟨a4,c4,rfl,ho4⟩:=own_appended (xs:=([64 * cl+32+tg]++[130])) (ys:=[(n:Int) / 256]) hv4 (ho3.alloc (.cells #[.int .u8 ((n:Int) / 256)] 5)).byte (one_byte _ (by omega)); have hb4:Below w.heap.size w w4:=below_appended (hb3.alloc hb3.size _) (hb3.alloc hb3.size _).size (ho3.alloc (.cells #[.int .u8 ((n:Int) / 256)] 5)).row hg4))
      rw [rounds_succ]
      go_wp2_with (first | (at_builtin; refine wpList_append_row _ rfl (.tmp 61) (.tmp 68) 26 rfl w.heap.size i0 Tryz.underlying26 hi hz0 hz1 hz2 _ _ _ rfl (ho4.alloc (.cells #[.int .u8 ((n:Int) % 256)] 5)).row _ 1 1 [(n:Int) % 256] rfl (own_new w4 hb4.size ((n:Int) % 256) (by omega)) (by simp) (by omega) (hb4.alloc hb4.size _).size ?_; intro v5 w5 hv5 hg5; obtain ⟨a5,c5,rfl,ho5⟩:=own_appended (xs:=(([64 * cl+32+tg]++[130])++[(n:Int) / 256])) (ys:=[(n:Int) % 256]) hv5 (ho4.alloc (.cells #[.int .u8 ((n:Int) % 256)] 5)).byte (one_byte _ (by omega)); have hb5:Below w.heap.size w w5:=below_appended (hb4.alloc hb4.size _) (hb4.alloc hb4.size _).size (ho4.alloc (.cells #[.int .u8 ((n:Int) % 256)] 5)).row hg5))
      rw [rounds_succ]
      go_wp2
      go_ret
      have HL:Hid (([64 * cl+32+tg]++lenL n).length=1+1+1+1):=by show _=_; rw [LN.out]; simp
      have HX:Hid ([64 * cl+32+tg]++lenL n=((([64 * cl+32+tg]++[130])++[(n:Int) / 256])++[(n:Int) % 256])):=by show _=_; rw [LN.out]; simp
      exact ⟨a5,c5,by rw [EL.out,HL.out]; rfl,by rw [EL.out,HL.out,HX.out]; exact ho5,hb5⟩
     ·have q1:0<(n:Int) / 256:=by omega
      have q2:0<(n:Int) / 65536:=by omega
      have q3:(n:Int) / 16777216≤0:=by omega
      have hwb:IntKind.u8.wrap ((n:Int) / 65536)=(n:Int) / 65536:=by rw [IntKind.wrap_u8]; omega
      have hwa:IntKind.u8.wrap ((n:Int) / 256)=(n:Int) / 256 % 256:=by rw [IntKind.wrap_u8]
      have hwn:IntKind.u8.wrap (n:Int)=(n:Int) % 256:=by rw [IntKind.wrap_u8]
      have LN:Hid (lenL n = [131,(n:Int) / 65536,(n:Int) / 256 % 256,(n:Int) % 256]):=by show _=_; rw [lenL,if_neg hA,if_neg hB,if_neg hC]
      go_enter Tryz.func98,Tryz.ntmps98
      go_wp2_with fail
      refine wp_loop_rounds 9 ?_
      rw [rounds_succ]
      go_wp2
      rw [rounds_succ]
      go_wp2
      rw [rounds_succ]
      go_wp2_with (first | (at_builtin; refine wpList_append_row _ rfl (.tmp 49) (.tmp 53) 26 rfl w.heap.size i0 Tryz.underlying26 hi hz0 hz1 hz2 _ _ _ rfl (HO0.out.alloc (.cells #[.int .u8 (131)] 5)).row _ 1 1 [131] rfl (own_one w.heap.size (((w.alloc (.cells #[.int .i64 cl,.int .i64 tg,.bool true,.slice ab nb cb,.slice ak nk ck] 94)).alloc (.cells #[.int .u8 (64 * cl+32+31)] 5)).alloc (.cells #[.int .u8 (64 * cl+32+tg)] 5)) (w.heap.size+1+1+1) (by simp) hB0.size (131) (by omega)).toRow (by simp) (by omega) (hB0.alloc hB0.size _).size ?_; intro v3 w3 hv3 hg3; obtain ⟨a3,c3,rfl,ho3⟩:=own_appended (xs:=[64 * cl+32+tg]) (ys:=[131]) hv3 (HO0.out.alloc (.cells #[.int .u8 (131)] 5)).byte (one_byte _ (by omega)); have hb3:Below w.heap.size w w3:=below_appended (hB0.alloc hB0.size _) (hB0.alloc hB0.size _).size (HO0.out.alloc (.cells #[.int .u8 (131)] 5)).row hg3))
      refine wp_loop_rounds 9 ?_
      rw [rounds_succ]
      go_wp2_with (first | (at_builtin; refine wpList_append_row _ rfl (.tmp 61) (.tmp 68) 26 rfl w.heap.size i0 Tryz.underlying26 hi hz0 hz1 hz2 _ _ _ rfl (ho3.alloc (.cells #[.int .u8 ((n:Int) / 65536)] 5)).row _ 1 1 [(n:Int) / 65536] rfl (own_new w3 hb3.size ((n:Int) / 65536) (by omega)) (by simp) (by omega) (hb3.alloc hb3.size _).size ?_; intro v4 w4 hv4 hg4; obtain ⟨a4,c4,rfl,ho4⟩:=own_appended (xs:=([64 * cl+32+tg]++[131])) (ys:=[(n:Int) / 65536]) hv4 (ho3.alloc (.cells #[.int .u8 ((n:Int) / 65536)] 5)).byte (one_byte _ (by omega)); have hb4:Below w.heap.size w w4:=below_appended (hb3.alloc hb3.size _) (hb3.alloc hb3.size _).size (ho3.alloc (.cells #[.int .u8 ((n:Int) / 65536)] 5)).row hg4))
      rw [rounds_succ]
      go_wp2_with (first | (at_builtin; refine wpList_append_row _ rfl (.tmp 61) (.tmp 68) 26 rfl w.heap.size i0 Tryz.underlying26 hi hz0 hz1 hz2 _ _ _ rfl (ho4.alloc (.cells #[.int .u8 ((n:Int) / 256 % 256)] 5)).row _ 1 1 [(n:Int) / 256 % 256] rfl (own_new w4 hb4.size ((n:Int) / 256 % 256) (by omega)) (by simp) (by omega) (hb4.alloc hb4.size _).size ?_; intro v5 w5 hv5 hg5; obtain ⟨a5,c5,rfl,ho5⟩:=own_appended (xs:=(([64 * cl+32+tg]++[131])++[(n:Int) / 65536])) (ys:=[(n:Int) / 256 % 256]) hv5 (ho4.alloc (.cells #[.int .u8 ((n:Int) / 256 % 256)] 5)).byte (one_byte _ (by omega)); have hb5:Below w.heap.size w w5:=below_appended (hb4.alloc hb4.size _) (hb4.alloc hb4.size _).size (ho4.alloc (.cells #[.int .u8 ((n:Int) / 256 % 256)] 5)).row hg5))
      rw [rounds_succ]
      go_wp2_with (first | (at_builtin; refine wpList_append_row _ rfl (.tmp 61) (.tmp 68) 26 rfl w.heap.size i0 Tryz.underlying26 hi hz0 hz1 hz2 _ _ _ rfl (ho5.alloc (.cells #[.int .u8 ((n:Int) % 256)] 5)).row _ 1 1 [(n:Int) % 256] rfl (own_new w5 hb5.size ((n:Int) % 256) (by omega)) (by simp) (by omega) (hb5.alloc hb5.size _).size ?_; intro v6 w6 hv6 hg6; obtain ⟨a6,c6,rfl,ho6⟩:=own_appended (xs:=((([64 * cl+32+tg]++[131])++[(n:Int) / 65536])++[(n:Int) / 256 % 256])) (ys:=[(n:Int) % 256]) hv6 (ho5.alloc (.cells #[.int .u8 ((n:Int) % 256)] 5)).byte (one_byte _ (by omega)); have hb6:Below w.heap.size w w6:=below_appended (hb5.alloc hb5.size _) (hb5.alloc hb5.size _).size (ho5.alloc (.cells #[.int .u8 ((n:Int) % 256)] 5)).row hg6))
      rw [rounds_succ]
      go_wp2
      go_ret
      have HL:Hid (([64 * cl+32+tg]++lenL n).length=1+1+1+1+1):=by show _=_; rw [LN.out]; simp
      have HX:Hid ([64 * cl+32+tg]++lenL n=(((([64 * cl+32+tg]++[131])++[(n:Int) / 65536])++[(n:Int) / 256 % 256])++[(n:Int) % 256])):=by show _=_; rw [LN.out]; simp
      exact ⟨a6,c6,by rw [EL.out,HL.out]; rfl,by rw [EL.out,HL.out,HX.out]; exact ho6,hb6⟩
  ·have el:headL (.mk cl tg true bo ks) n=([64 * cl+32+31]++putN tg.toNat)++lenL n:=by show (if tg<31 then [firstOf cl true+tg] else (firstOf cl true+31)::putN tg.toNat)++lenL n=_; rw [if_neg ht,hfo]; rfl
   have HO1:Hid (Own w.heap.size ((w.alloc (.cells #[.int .i64 cl,.int .i64 tg,.bool true,.slice ab nb cb,.slice ak nk ck] 94)).alloc (.cells #[.int .u8 (64 * cl+32+31)] 5)) (some ⟨w.heap.size+1,0,none⟩) 1 1 [64 * cl+32+31]):=own_one w.heap.size (w.alloc (.cells #[.int .i64 cl,.int .i64 tg,.bool true,.slice ab nb cb,.slice ak nk ck] 94)) _ (by simp) (by simp) (64 * cl+32+31) (by omega)
   have HPU:Hid (putI tg=putN tg.toNat):=by show _=_; rw [putI,if_neg (by omega)]
   have hpl:(putN tg.toNat).length≤9:=by rw [putN,putL_len]; exact cnt_le _ (by omega)
   obtain ⟨m0,hm0⟩:∃ m0,m0=(putN tg.toNat).length:=⟨_,rfl⟩
   rw [← hm0] at hpl
   have HM:Hid (m0=(putN tg.toNat).length):=hm0
   have EL:Hid (_=_):=el
   clear el hfo hm0
   by_cases hA:n<128
   ·have hA':(n:Int)<128:=by omega
    have hwn:IntKind.u8.wrap (n:Int)=n:=by rw [IntKind.wrap_u8]; omega
    have LN:Hid (lenL n = [(n:Int)]):=by show _=_; rw [lenL,if_pos hA]
    go_enter Tryz.func98,Tryz.ntmps98
    go_wp2_with fail
    refine (specPutNum_any tg _ (by omega)).mono ?_
    rintro e w1 ⟨a1,c1,rfl,ho1,hb1⟩
    rw [HPU.out,← HM.out] at ho1 ⊢
    have hO1:=HO1.out.kept hb1
    have hB2:Below w.heap.size w w1:=hB1.trans (hb1.mono hB1.size)
    go_wp2_with (first | (at_builtin; refine wpList_append_row _ rfl (.tmp 29) (.tmp 32) 26 rfl w.heap.size i0 Tryz.underlying26 hi hz0 hz1 hz2 _ _ _ rfl hO1.row a1 m0 c1 (putN tg.toNat) rfl ho1.toRow ho1.nil (by omega) hB2.size ?_; intro v2 w2 hv2 hg2; obtain ⟨a2,c2,rfl,ho2⟩:=own_appended (xs:=[64 * cl+32+31]) (ys:=(putN tg.toNat)) hv2 hO1.byte ho1.byte; have hb2:Below w.heap.size w w2:=below_appended hB2 hB2.size hO1.row hg2) | (at_builtin; refine wpList_append_row _ rfl (.tmp 36) (.tmp 39) 26 rfl w.heap.size i0 Tryz.underlying26 hi hz0 hz1 hz2 _ _ _ rfl (ho2.alloc (.cells #[.int .u8 ((n:Int))] 5)).row _ 1 1 [(n:Int)] rfl (own_new w2 hb2.size ((n:Int)) (by omega)) (by simp) (by omega) (hb2.alloc hb2.size _).size ?_; intro v3 w3 hv3 hg3; obtain ⟨a3,c3,rfl,ho3⟩:=own_appended (xs:=([64 * cl+32+31]++putN tg.toNat)) (ys:=[(n:Int)]) hv3 (ho2.alloc (.cells #[.int .u8 ((n:Int))] 5)).byte (one_byte _ (by omega)); have hb3:Below w.heap.size w w3:=below_appended (hb2.alloc hb2.size _) (hb2.alloc hb2.size _).size (ho2.alloc (.cells #[.int .u8 ((n:Int))] 5)).row hg3))
    go_ret
    have HL:Hid ((([64 * cl+32+31]++putN tg.toNat)++lenL n).length=(1+m0)+1):=by show _=_; rw [LN.out]; simp; rw [HM.out]; omega
    exact ⟨a3,c3,by rw [EL.out,HL.out]; rfl,by rw [EL.out,HL.out,LN.out]; exact ho3,hb3⟩
   ·have hA':¬ (n:Int)<128:=by omega
    by_cases hB:n<256
    ·have q1:(n:Int) / 256≤0:=by omega
     have hwn:IntKind.u8.wrap (n:Int)=n:=by rw [IntKind.wrap_u8]; omega
     have LN:Hid (lenL n = [129,(n:Int)]):=by show _=_; rw [lenL,if_neg hA,if_pos hB]
     go_enter Tryz.func98,Tryz.ntmps98
     go_wp2_with fail
     refine (specPutNum_any tg _ (by omega)).mono ?_
     rintro e w1 ⟨a1,c1,rfl,ho1,hb1⟩
     rw [HPU.out,← HM.out] at ho1 ⊢
     have hO1:=HO1.out.kept hb1
     have hB2:Below w.heap.size w w1:=hB1.trans (hb1.mono hB1.size)
     go_wp2_with (first | (at_builtin; refine wpList_append_row _ rfl (.tmp 29) (.tmp 32) 26 rfl w.heap.size i0 Tryz.underlying26 hi hz0 hz1 hz2 _ _ _ rfl hO1.row a1 m0 c1 (putN tg.toNat) rfl ho1.toRow ho1.nil (by omega) hB2.size ?_; intro v2 w2 hv2 hg2; obtain ⟨a2,c2,rfl,ho2⟩:=own_appended (xs:=[64 * cl+32+31]) (ys:=(putN tg.toNat)) hv2 hO1.byte ho1.byte; have hb2:Below w.heap.size w w2:=below_appended hB2 hB2.size hO1.row hg2))
     refine wp_loop_rounds 9 ?_
     rw [rounds_succ]
     go_wp2_with (first | (at_builtin; refine wpList_append_row _ rfl (.tmp 49) (.tmp 53) 26 rfl w.heap.size i0 Tryz.underlying26 hi hz0 hz1 hz2 _ _ _ rfl (ho2.alloc (.cells #[.int .u8 (129)] 5)).row _ 1 1 [129] rfl (own_new w2 hb2.size (129) (by omega)) (by simp) (by omega) (hb2.alloc hb2.size _).size ?_; intro v3 w3 hv3 hg3; obtain ⟨a3,c3,rfl,ho3⟩:=own_appended (xs:=([64 * cl+32+31]++putN tg.toNat)) (ys:=[129]) hv3 (ho2.alloc (.cells #[.int .u8 (129)] 5)).byte (one_byte _ (by omega)); have hb3:Below w.heap.size w w3:=below_appended (hb2.alloc hb2.size _) (hb2.alloc hb2.size _).size (ho2.alloc (.cells #[.int .u8 (129)] 5)).row hg3))
     refine wp_loop_rounds 9 ?_
     rw [rounds_succ]
     go_wp2_with (first | (at_builtin; refine wpList_append_row _ rfl (.tmp 61) (.tmp 68) 26 rfl w.heap.size i0 Tryz.underlying26 hi hz0 hz1 hz2 _ _ _ rfl (ho3.alloc (.cells #[.int .u8 ((n:Int))] 5)).row _ 1 1 [(n:Int)] rfl (own_new w3 hb3.size ((n:Int)) (by omega)) (by simp) (by omega) (hb3.alloc hb3.size _).size ?_; intro v4 w4 hv4 hg4; obtain ⟨a4,c4,rfl,ho4⟩:=own_appended (xs:=(([64 * cl+32+31]++putN tg.toNat)++[129])) (ys:=[(n:Int)]) hv4 (ho3.alloc (.cells #[.int .u8 ((n:Int))] 5)).byte (one_byte _ (by omega)); have hb4:Below w.heap.size w w4:=below_appended (hb3.alloc hb3.size _) (hb3.alloc hb3.size _).size (ho3.alloc (.cells #[.int .u8 ((n:Int))] 5)).row hg4))
     rw [rounds_succ]
     go_wp2
     go_ret
     have HL:Hid ((([64 * cl+32+31]++putN tg.toNat)++lenL n).length=(1+m0)+1+1):=by show _=_; rw [LN.out]; simp; rw [HM.out]; omega
     have HX:Hid (([64 * cl+32+31]++putN tg.toNat)++lenL n=((([64 * cl+32+31]++putN tg.toNat)++[129])++[(n:Int)])):=by show _=_; rw [LN.out]; simp
     exact ⟨a4,c4,by rw [EL.out,HL.out]; rfl,by rw [EL.out,HL.out,HX.out]; exact ho4,hb4⟩
    ·by_cases hC:n<65536
     ·have q1:0<(n:Int) / 256:=by omega
      have q2:(n:Int) / 65536≤0:=by omega
      have hwa:IntKind.u8.wrap ((n:Int) / 256)=(n:Int) / 256:=by rw [IntKind.wrap_u8]; omega
      have hwn:IntKind.u8.wrap (n:Int)=(n:Int) % 256:=by rw [IntKind.wrap_u8]
      have LN:Hid (lenL n = [130,(n:Int) / 256,(n:Int) % 256]):=by show _=_; rw [lenL,if_neg hA,if_neg hB,if_pos hC]
      go_enter Tryz.func98,Tryz.ntmps98
      go_wp2_with fail
      refine (specPutNum_any tg _ (by omega)).mono ?_
      rintro e w1 ⟨a1,c1,rfl,ho1,hb1⟩
      rw [HPU.out,← HM.out] at ho1 ⊢
      have hO1:=HO1.out.kept hb1
      have hB2:Below w.heap.size w w1:=hB1.trans (hb1.mono hB1.size)
      go_wp2_with (first | (at_builtin; refine wpList_append_row _ rfl (.tmp 29) (.tmp 32) 26 rfl w.heap.size i0 Tryz.underlying26 hi hz0 hz1 hz2 _ _ _ rfl hO1.row a1 m0 c1 (putN tg.toNat) rfl ho1.toRow ho1.nil (by omega) hB2.size ?_; intro v2 w2 hv2 hg2; obtain ⟨a2,c2,rfl,ho2⟩:=own_appended (xs:=[64 * cl+32+31]) (ys:=(putN tg.toNat)) hv2 hO1.byte ho1.byte; have hb2:Below w.heap.size w w2:=below_appended hB2 hB2.size hO1.row hg2))
      refine wp_loop_rounds 9 ?_
      rw [rounds_succ]
      go_wp2
      rw [rounds_succ]
      go_wp2_with (first | (at_builtin; refine wpList_append_row _ rfl (.tmp 49) (.tmp 53) 26 rfl w.heap.size i0 Tryz.underlying26 hi hz0 hz1 hz2 _ _ _ rfl (ho2.alloc (.cells #[.int .u8 (130)] 5)).row _ 1 1 [130] rfl (own_new w2 hb2.size (130) (by omega)) (by simp) (by omega) (hb2.alloc hb2.size _).size ?_; intro v3 w3 hv3 hg3; obtain ⟨a3,c3,rfl,ho3⟩:=own_appended (xs:=([64 * cl+32+31]++putN tg.toNat)) (ys:=[130]) hv3 (ho2.alloc (.cells #[.int .u8 (130)] 5)).byte (one_byte _ (by omega)); have hb3:Below w.heap.size w w3:=below_appended (hb2.alloc hb2.size _) (hb2.alloc hb2.size _).size (ho2.alloc (.cells #[.int .u8 (130)] 5)).row hg3))
      refine wp_loop_rounds 9 ?_
      rw [rounds_succ]
      go_wp2_with (first | (at_builtin; refine wpList_append_row _ rfl (.tmp 61) (.tmp 68) 26 rfl w.heap.size i0 Tryz.underlying26 hi hz0 hz1 hz2 _ _ _ rfl (ho3.alloc (.cells #[.int .u8 ((n:Int) / 256)] 5)).row _ 1 1 [(n:Int) / 256] rfl (own_new w3 hb3.size ((n:Int) / 256) (by omega)) (by simp) (by omega) (hb3.alloc hb3.size _).size ?_; intro v4 w4 hv4 hg4; obtain ⟨a4,c4,rfl,ho4⟩:=own_appended (xs:=(([64 * cl+32+31]++putN tg.toNat)++[130])) (ys:=[(n:Int) / 256]) hv4 (ho3.alloc (.cells #[.int .u8 ((n:Int) / 256)] 5)).byte (one_byte _ (by omega)); have hb4:Below w.heap.size w w4:=below_appended (hb3.alloc hb3.size _) (hb3.alloc hb3.size _).size (ho3.alloc (.cells #[.int .u8 ((n:Int) / 256)] 5)).row hg4))
      rw [rounds_succ]
      go_wp2_with (first | (at_builtin; refine wpList_append_row _ rfl (.tmp 61) (.tmp 68) 26 rfl w.heap.size i0 Tryz.underlying26 hi hz0 hz1 hz2 _ _ _ rfl (ho4.alloc (.cells #[.int .u8 ((n:Int) % 256)] 5)).row _ 1 1 [(n:Int) % 256] rfl (own_new w4 hb4.size ((n:Int) % 256) (by omega)) (by simp) (by omega) (hb4.alloc hb4.size _).size ?_; intro v5 w5 hv5 hg5; obtain ⟨a5,c5,rfl,ho5⟩:=own_appended (xs:=((([64 * cl+32+31]++putN tg.toNat)++[130])++[(n:Int) / 256])) (ys:=[(n:Int) % 256]) hv5 (ho4.alloc (.cells #[.int .u8 ((n:Int) % 256)] 5)).byte (one_byte _ (by omega)); have hb5:Below w.heap.size w w5:=below_appended (hb4.alloc hb4.size _) (hb4.alloc hb4.size _).size (ho4.alloc (.cells #[.int .u8 ((n:Int) % 256)] 5)).row hg5))
      rw [rounds_succ]
      go_wp2
      go_ret
      have HL:Hid ((([64 * cl+32+31]++putN tg.toNat)++lenL n).length=(1+m0)+1+1+1):=by show _=_; rw [LN.out]; simp; rw [HM.out]; omega
      have HX:Hid (([64 * cl+32+31]++putN tg.toNat)++lenL n=(((([64 * cl+32+31]++putN tg.toNat)++[130])++[(n:Int) / 256])++[(n:Int) % 256])):=by show _=_; rw [LN.out]; simp
      exact ⟨a5,c5,by rw [EL.out,HL.out]; rfl,by rw [EL.out,HL.out,HX.out]; exact ho5,hb5⟩
     ·have q1:0<(n:Int) / 256:=by omega
      have q2:0<(n:Int) / 65536:=by omega
      have q3:(n:Int) / 16777216≤0:=by omega
      have hwb:IntKind.u8.wrap ((n:Int) / 65536)=(n:Int) / 65536:=by rw [IntKind.wrap_u8]; omega
      have hwa:IntKind.u8.wrap ((n:Int) / 256)=(n:Int) / 256 % 256:=by rw [IntKind.wrap_u8]
      have hwn:IntKind.u8.wrap (n:Int)=(n:Int) % 256:=by rw [IntKind.wrap_u8]
      have LN:Hid (lenL n = [131,(n:Int) / 65536,(n:Int) / 256 % 256,(n:Int) % 256]):=by show _=_; rw [lenL,if_neg hA,if_neg hB,if_neg hC]
      go_enter Tryz.func98,Tryz.ntmps98
      go_wp2_with fail
      refine (specPutNum_any tg _ (by omega)).mono ?_
      rintro e w1 ⟨a1,c1,rfl,ho1,hb1⟩
      rw [HPU.out,← HM.out] at ho1 ⊢
      have hO1:=HO1.out.kept hb1
      have hB2:Below w.heap.size w w1:=hB1.trans (hb1.mono hB1.size)
      go_wp2_with (first | (at_builtin; refine wpList_append_row _ rfl (.tmp 29) (.tmp 32) 26 rfl w.heap.size i0 Tryz.underlying26 hi hz0 hz1 hz2 _ _ _ rfl hO1.row a1 m0 c1 (putN tg.toNat) rfl ho1.toRow ho1.nil (by omega) hB2.size ?_; intro v2 w2 hv2 hg2; obtain ⟨a2,c2,rfl,ho2⟩:=own_appended (xs:=[64 * cl+32+31]) (ys:=(putN tg.toNat)) hv2 hO1.byte ho1.byte; have hb2:Below w.heap.size w w2:=below_appended hB2 hB2.size hO1.row hg2))
      refine wp_loop_rounds 9 ?_
      rw [rounds_succ]
      go_wp2
      rw [rounds_succ]
      go_wp2
      rw [rounds_succ]
      go_wp2_with (first | (at_builtin; refine wpList_append_row _ rfl (.tmp 49) (.tmp 53) 26 rfl w.heap.size i0 Tryz.underlying26 hi hz0 hz1 hz2 _ _ _ rfl (ho2.alloc (.cells #[.int .u8 (131)] 5)).row _ 1 1 [131] rfl (own_new w2 hb2.size (131) (by omega)) (by simp) (by omega) (hb2.alloc hb2.size _).size ?_; intro v3 w3 hv3 hg3; obtain ⟨a3,c3,rfl,ho3⟩:=own_appended (xs:=([64 * cl+32+31]++putN tg.toNat)) (ys:=[131]) hv3 (ho2.alloc (.cells #[.int .u8 (131)] 5)).byte (one_byte _ (by omega)); have hb3:Below w.heap.size w w3:=below_appended (hb2.alloc hb2.size _) (hb2.alloc hb2.size _).size (ho2.alloc (.cells #[.int .u8 (131)] 5)).row hg3))
      refine wp_loop_rounds 9 ?_
      rw [rounds_succ]
      go_wp2_with (first | (at_builtin; refine wpList_append_row _ rfl (.tmp 61) (.tmp 68) 26 rfl w.heap.size i0 Tryz.underlying26 hi hz0 hz1 hz2 _ _ _ rfl (ho3.alloc (.cells #[.int .u8 ((n:Int) / 65536)] 5)).row _ 1 1 [(n:Int) / 65536] rfl (own_new w3 hb3.size ((n:Int) / 65536) (by omega)) (by simp) (by omega) (hb3.alloc hb3.size _).size ?_; intro v4 w4 hv4 hg4; obtain ⟨a4,c4,rfl,ho4⟩:=own_appended (xs:=(([64 * cl+32+31]++putN tg.toNat)++[131])) (ys:=[(n:Int) / 65536]) hv4 (ho3.alloc (.cells #[.int .u8 ((n:Int) / 65536)] 5)).byte (one_byte _ (by omega)); have hb4:Below w.heap.size w w4:=below_appended (hb3.alloc hb3.size _) (hb3.alloc hb3.size _).size (ho3.alloc (.cells #[.int .u8 ((n:Int) / 65536)] 5)).row hg4))
      rw [rounds_succ]
      go_wp2_with (first | (at_builtin; refine wpList_append_row _ rfl (.tmp 61) (.tmp 68) 26 rfl w.heap.size i0 Tryz.underlying26 hi hz0 hz1 hz2 _ _ _ rfl (ho4.alloc (.cells #[.int .u8 ((n:Int) / 256 % 256)] 5)).row _ 1 1 [(n:Int) / 256 % 256] rfl (own_new w4 hb4.size ((n:Int) / 256 % 256) (by omega)) (by simp) (by omega) (hb4.alloc hb4.size _).size ?_; intro v5 w5 hv5 hg5; obtain ⟨a5,c5,rfl,ho5⟩:=own_appended (xs:=((([64 * cl+32+31]++putN tg.toNat)++[131])++[(n:Int) / 65536])) (ys:=[(n:Int) / 256 % 256]) hv5 (ho4.alloc (.cells #[.int .u8 ((n:Int) / 256 % 256)] 5)).byte (one_byte _ (by omega)); have hb5:Below w.heap.size w w5:=below_appended (hb4.alloc hb4.size _) (hb4.alloc hb4.size _).size (ho4.alloc (.cells #[.int .u8 ((n:Int) / 256 % 256)] 5)).row hg5))
      rw [rounds_succ]
      go_wp2_with (first | (at_builtin; refine wpList_append_row _ rfl (.tmp 61) (.tmp 68) 26 rfl w.heap.size i0 Tryz.underlying26 hi hz0 hz1 hz2 _ _ _ rfl (ho5.alloc (.cells #[.int .u8 ((n:Int) % 256)] 5)).row _ 1 1 [(n:Int) % 256] rfl (own_new w5 hb5.size ((n:Int) % 256) (by omega)) (by simp) (by omega) (hb5.alloc hb5.size _).size ?_; intro v6 w6 hv6 hg6; obtain ⟨a6,c6,rfl,ho6⟩:=own_appended (xs:=(((([64 * cl+32+31]++putN tg.toNat)++[131])++[(n:Int) / 65536])++[(n:Int) / 256 % 256])) (ys:=[(n:Int) % 256]) hv6 (ho5.alloc (.cells #[.int .u8 ((n:Int) % 256)] 5)).byte (one_byte _ (by omega)); have hb6:Below w.heap.size w w6:=below_appended (hb5.alloc hb5.size _) (hb5.alloc hb5.size _).size (ho5.alloc (.cells #[.int .u8 ((n:Int) % 256)] 5)).row hg6))
      rw [rounds_succ]
      go_wp2
      go_ret
      have HL:Hid ((([64 * cl+32+31]++putN tg.toNat)++lenL n).length=(1+m0)+1+1+1+1):=by show _=_; rw [LN.out]; simp; rw [HM.out]; omega
      have HX:Hid (([64 * cl+32+31]++putN tg.toNat)++lenL n=((((([64 * cl+32+31]++putN tg.toNat)++[131])++[(n:Int) / 65536])++[(n:Int) / 256 % 256])++[(n:Int) % 256])):=by show _=_; rw [LN.out]; simp
      exact ⟨a6,c6,by rw [EL.out,HL.out]; rfl,by rw [EL.out,HL.out,HX.out]; exact ho6,hb6⟩
 | false =>
  have hfo:firstOf cl false=64 * cl:=by simp [firstOf]
  have hbl:Below w.heap.size w (w.alloc (.cells #[.int .i64 cl,.int .i64 tg,.bool false,.slice ab nb cb,.slice ak nk ck] 94)):=(Below.refl _ _).alloc (Nat.le_refl _) _
  have hw1:IntKind.u8.wrap (64 * cl+31)=64 * cl+31:=by rw [IntKind.wrap_u8]; omega
  have hB1:Below w.heap.size w ((w.alloc (.cells #[.int .i64 cl,.int .i64 tg,.bool false,.slice ab nb cb,.slice ak nk ck] 94)).alloc (.cells #[.int .u8 (64 * cl+31)] 5)):=hbl.alloc (by simp) _
  by_cases ht:tg<31
  ·have el:headL (.mk cl tg false bo ks) n = [64 * cl+tg]++lenL n:=by show (if tg<31 then [firstOf cl false+tg] else (firstOf cl false+31)::putN tg.toNat)++lenL n=_; rw [if_pos ht,hfo]
   have hw2:IntKind.u8.wrap (64 * cl+tg)=64 * cl+tg:=by rw [IntKind.wrap_u8]; omega
   have hB0:Below w.heap.size w (((w.alloc (.cells #[.int .i64 cl,.int .i64 tg,.bool false,.slice ab nb cb,.slice ak nk ck] 94)).alloc (.cells #[.int .u8 (64 * cl+31)] 5)).alloc (.cells #[.int .u8 (64 * cl+tg)] 5)):=hB1.alloc (by simp; omega) _
   have HO0:Hid (Own w.heap.size (((w.alloc (.cells #[.int .i64 cl,.int .i64 tg,.bool false,.slice ab nb cb,.slice ak nk ck] 94)).alloc (.cells #[.int .u8 (64 * cl+31)] 5)).alloc (.cells #[.int .u8 (64 * cl+tg)] 5)) (some ⟨w.heap.size+1+1,0,none⟩) 1 1 [64 * cl+tg]):=own_one w.heap.size ((w.alloc (.cells #[.int .i64 cl,.int .i64 tg,.bool false,.slice ab nb cb,.slice ak nk ck] 94)).alloc (.cells #[.int .u8 (64 * cl+31)] 5)) _ (by simp) (by simp; omega) (64 * cl+tg) (by omega)
   have EL:Hid (_=_):=el
   clear el hfo
   by_cases hA:n<128
   ·have hA':(n:Int)<128:=by omega
    have hwn:IntKind.u8.wrap (n:Int)=n:=by rw [IntKind.wrap_u8]; omega
    have LN:Hid (lenL n = [(n:Int)]):=by show _=_; rw [lenL,if_pos hA]
    go_enter Tryz.func98,Tryz.ntmps98
    go_wp2_with (first | (at_builtin; refine wpList_append_row _ rfl (.tmp 36) (.tmp 39) 26 rfl w.heap.size i0 Tryz.underlying26 hi hz0 hz1 hz2 _ _ _ rfl (HO0.out.alloc (.cells #[.int .u8 ((n:Int))] 5)).row _ 1 1 [(n:Int)] rfl (own_one w.heap.size (((w.alloc (.cells #[.int .i64 cl,.int .i64 tg,.bool false,.slice ab nb cb,.slice ak nk ck] 94)).alloc (.cells #[.int .u8 (64 * cl+31)] 5)).alloc (.cells #[.int .u8 (64 * cl+tg)] 5)) (w.heap.size+1+1+1) (by simp) hB0.size ((n:Int)) (by omega)).toRow (by simp) (by omega) (hB0.alloc hB0.size _).size ?_; intro v3 w3 hv3 hg3; obtain ⟨a3,c3,rfl,ho3⟩:=own_appended (xs:=[64 * cl+tg]) (ys:=[(n:Int)]) hv3 (HO0.out.alloc (.cells #[.int .u8 ((n:Int))] 5)).byte (one_byte _ (by omega)); have hb3:Below w.heap.size w w3:=below_appended (hB0.alloc hB0.size _) (hB0.alloc hB0.size _).size (HO0.out.alloc (.cells #[.int .u8 ((n:Int))] 5)).row hg3))
    go_ret
    have HL:Hid (([64 * cl+tg]++lenL n).length=1+1):=by show _=_; rw [LN.out]; simp
    exact ⟨a3,c3,by rw [EL.out,HL.out]; rfl,by rw [EL.out,HL.out,LN.out]; exact ho3,hb3⟩
   ·have hA':¬ (n:Int)<128:=by omega
    by_cases hB:n<256
    ·have q1:(n:Int) / 256≤0:=by omega
     have hwn:IntKind.u8.wrap (n:Int)=n:=by rw [IntKind.wrap_u8]; omega
     have LN:Hid (lenL n = [129,(n:Int)]):=by show _=_; rw [lenL,if_neg hA,if_pos hB]
     go_enter Tryz.func98,Tryz.ntmps98
     go_wp2_with fail
     refine wp_loop_rounds 9 ?_
     rw [rounds_succ]
     go_wp2_with (first | (at_builtin; refine wpList_append_row _ rfl (.tmp 49) (.tmp 53) 26 rfl w.heap.size i0 Tryz.underlying26 hi hz0 hz1 hz2 _ _ _ rfl (HO0.out.alloc (.cells #[.int .u8 (129)] 5)).row _ 1 1 [129] rfl (own_one w.heap.size (((w.alloc (.cells #[.int .i64 cl,.int .i64 tg,.bool false,.slice ab nb cb,.slice ak nk ck] 94)).alloc (.cells #[.int .u8 (64 * cl+31)] 5)).alloc (.cells #[.int .u8 (64 * cl+tg)] 5)) (w.heap.size+1+1+1) (by simp) hB0.size (129) (by omega)).toRow (by simp) (by omega) (hB0.alloc hB0.size _).size ?_; intro v3 w3 hv3 hg3; obtain ⟨a3,c3,rfl,ho3⟩:=own_appended (xs:=[64 * cl+tg]) (ys:=[129]) hv3 (HO0.out.alloc (.cells #[.int .u8 (129)] 5)).byte (one_byte _ (by omega)); have hb3:Below w.heap.size w w3:=below_appended (hB0.alloc hB0.size _) (hB0.alloc hB0.size _).size (HO0.out.alloc (.cells #[.int .u8 (129)] 5)).row hg3))
     refine wp_loop_rounds 9 ?_
     rw [rounds_succ]
     go_wp2_with (first | (at_builtin; refine wpList_append_row _ rfl (.tmp 61) (.tmp 68) 26 rfl w.heap.size i0 Tryz.underlying26 hi hz0 hz1 hz2 _ _ _ rfl (ho3.alloc (.cells #[.int .u8 ((n:Int))] 5)).row _ 1 1 [(n:Int)] rfl (own_new w3 hb3.size ((n:Int)) (by omega)) (by simp) (by omega) (hb3.alloc hb3.size _).size ?_; intro v4 w4 hv4 hg4; obtain ⟨a4,c4,rfl,ho4⟩:=own_appended (xs:=([64 * cl+tg]++[129])) (ys:=[(n:Int)]) hv4 (ho3.alloc (.cells #[.int .u8 ((n:Int))] 5)).byte (one_byte _ (by omega)); have hb4:Below w.heap.size w w4:=below_appended (hb3.alloc hb3.size _) (hb3.alloc hb3.size _).size (ho3.alloc (.cells #[.int .u8 ((n:Int))] 5)).row hg4))
     rw [rounds_succ]
     go_wp2
     go_ret
     have HL:Hid (([64 * cl+tg]++lenL n).length=1+1+1):=by show _=_; rw [LN.out]; simp
     have HX:Hid ([64 * cl+tg]++lenL n=(([64 * cl+tg]++[129])++[(n:Int)])):=by show _=_; rw [LN.out]; simp
     exact ⟨a4,c4,by rw [EL.out,HL.out]; rfl,by rw [EL.out,HL.out,HX.out]; exact ho4,hb4⟩
    ·by_cases hC:n<65536
     ·have q1:0<(n:Int) / 256:=by omega
      have q2:(n:Int) / 65536≤0:=by omega
      have hwa:IntKind.u8.wrap ((n:Int) / 256)=(n:Int) / 256:=by rw [IntKind.wrap_u8]; omega
      have hwn:IntKind.u8.wrap (n:Int)=(n:Int) % 256:=by rw [IntKind.wrap_u8]
      have LN:Hid (lenL n = [130,(n:Int) / 256,(n:Int) % 256]):=by show _=_; rw [lenL,if_neg hA,if_neg hB,if_pos hC]
      go_enter Tryz.func98,Tryz.ntmps98
      go_wp2_with fail
      refine wp_loop_rounds 9 ?_
      rw [rounds_succ]
      go_wp2
      rw [rounds_succ]
      go_wp2_with (first | (at_builtin; refine wpList_append_row _ rfl (.tmp 49) (.tmp 53) 26 rfl w.heap.size i0 Tryz.underlying26 hi hz0 hz1 hz2 _ _ _ rfl (HO0.out.alloc (.cells #[.int .u8 (130)] 5)).row _ 1 1 [130] rfl (own_one w.heap.size (((w.alloc (.cells #[.int .i64 cl,.int .i64 tg,.bool false,.slice ab nb cb,.slice ak nk ck] 94)).alloc (.cells #[.int .u8 (64 * cl+31)] 5)).alloc (.cells #[.int .u8 (64 * cl+tg)] 5)) (w.heap.size+1+1+1) (by simp) hB0.size (130) (by omega)).toRow (by simp) (by omega) (hB0.alloc hB0.size _).size ?_; intro v3 w3 hv3 hg3; obtain ⟨a3,c3,rfl,ho3⟩:=own_appended (xs:=[64 * cl+tg]) (ys:=[130]) hv3 (HO0.out.alloc (.cells #[.int .u8 (130)] 5)).byte (one_byte _ (by omega)); have hb3:Below w.heap.size w w3:=below_appended (hB0.alloc hB0.size _) (hB0.alloc hB0.size _).size (HO0.out.alloc (.cells #[.int .u8 (130)] 5)).row hg3))
      refine wp_loop_rounds 9 ?_
      rw [rounds_succ]
      go_wp2_with (first | (at_builtin; refine wpList_append_row _ rfl (.tmp 61) (.tmp 68) 26 rfl w.heap.size i0 Tryz.underlying26 hi hz0 hz1 hz2 _ _ _ rfl (ho3.alloc (.cells #[.int .u8 ((n:Int) / 256)] 5)).row _ 1 1 [(n:Int) / 256] rfl (own_new w3 hb3.size ((n:Int) / 256) (by omega)) (by simp) (by omega) (hb3.alloc hb3.size _).size ?_; intro v4 w4 hv4 hg4; obtain ⟨a4,c4,rfl,ho4⟩:=own_appended (xs:=([64 * cl+tg]++[130])) (ys:=[(n:Int) / 256]) hv4 (ho3.alloc (.cells #[.int .u8 ((n:Int) / 256)] 5)).byte (one_byte _ (by omega)); have hb4:Below w.heap.size w w4:=below_appended (hb3.alloc hb3.size _) (hb3.alloc hb3.size _).size (ho3.alloc (.cells #[.int .u8 ((n:Int) / 256)] 5)).row hg4))
      rw [rounds_succ]
      go_wp2_with (first | (at_builtin; refine wpList_append_row _ rfl (.tmp 61) (.tmp 68) 26 rfl w.heap.size i0 Tryz.underlying26 hi hz0 hz1 hz2 _ _ _ rfl (ho4.alloc (.cells #[.int .u8 ((n:Int) % 256)] 5)).row _ 1 1 [(n:Int) % 256] rfl (own_new w4 hb4.size ((n:Int) % 256) (by omega)) (by simp) (by omega) (hb4.alloc hb4.size _).size ?_; intro v5 w5 hv5 hg5; obtain ⟨a5,c5,rfl,ho5⟩:=own_appended (xs:=(([64 * cl+tg]++[130])++[(n:Int) / 256])) (ys:=[(n:Int) % 256]) hv5 (ho4.alloc (.cells #[.int .u8 ((n:Int) % 256)] 5)).byte (one_byte _ (by omega)); have hb5:Below w.heap.size w w5:=below_appended (hb4.alloc hb4.size _) (hb4.alloc hb4.size _).size (ho4.alloc (.cells #[.int .u8 ((n:Int) % 256)] 5)).row hg5))
      rw [rounds_succ]
      go_wp2
      go_ret
      have HL:Hid (([64 * cl+tg]++lenL n).length=1+1+1+1):=by show _=_; rw [LN.out]; simp
      have HX:Hid ([64 * cl+tg]++lenL n=((([64 * cl+tg]++[130])++[(n:Int) / 256])++[(n:Int) % 256])):=by show _=_; rw [LN.out]; simp
      exact ⟨a5,c5,by rw [EL.out,HL.out]; rfl,by rw [EL.out,HL.out,HX.out]; exact ho5,hb5⟩
     ·have q1:0<(n:Int) / 256:=by omega
      have q2:0<(n:Int) / 65536:=by omega
      have q3:(n:Int) / 16777216≤0:=by omega
      have hwb:IntKind.u8.wrap ((n:Int) / 65536)=(n:Int) / 65536:=by rw [IntKind.wrap_u8]; omega
      have hwa:IntKind.u8.wrap ((n:Int) / 256)=(n:Int) / 256 % 256:=by rw [IntKind.wrap_u8]
      have hwn:IntKind.u8.wrap (n:Int)=(n:Int) % 256:=by rw [IntKind.wrap_u8]
      have LN:Hid (lenL n = [131,(n:Int) / 65536,(n:Int) / 256 % 256,(n:Int) % 256]):=by show _=_; rw [lenL,if_neg hA,if_neg hB,if_neg hC]
      go_enter Tryz.func98,Tryz.ntmps98
      go_wp2_with fail
      refine wp_loop_rounds 9 ?_
      rw [rounds_succ]
      go_wp2
      rw [rounds_succ]
      go_wp2
      rw [rounds_succ]
      go_wp2_with (first | (at_builtin; refine wpList_append_row _ rfl (.tmp 49) (.tmp 53) 26 rfl w.heap.size i0 Tryz.underlying26 hi hz0 hz1 hz2 _ _ _ rfl (HO0.out.alloc (.cells #[.int .u8 (131)] 5)).row _ 1 1 [131] rfl (own_one w.heap.size (((w.alloc (.cells #[.int .i64 cl,.int .i64 tg,.bool false,.slice ab nb cb,.slice ak nk ck] 94)).alloc (.cells #[.int .u8 (64 * cl+31)] 5)).alloc (.cells #[.int .u8 (64 * cl+tg)] 5)) (w.heap.size+1+1+1) (by simp) hB0.size (131) (by omega)).toRow (by simp) (by omega) (hB0.alloc hB0.size _).size ?_; intro v3 w3 hv3 hg3; obtain ⟨a3,c3,rfl,ho3⟩:=own_appended (xs:=[64 * cl+tg]) (ys:=[131]) hv3 (HO0.out.alloc (.cells #[.int .u8 (131)] 5)).byte (one_byte _ (by omega)); have hb3:Below w.heap.size w w3:=below_appended (hB0.alloc hB0.size _) (hB0.alloc hB0.size _).size (HO0.out.alloc (.cells #[.int .u8 (131)] 5)).row hg3))
      refine wp_loop_rounds 9 ?_
      rw [rounds_succ]
      go_wp2_with (first | (at_builtin; refine wpList_append_row _ rfl (.tmp 61) (.tmp 68) 26 rfl w.heap.size i0 Tryz.underlying26 hi hz0 hz1 hz2 _ _ _ rfl (ho3.alloc (.cells #[.int .u8 ((n:Int) / 65536)] 5)).row _ 1 1 [(n:Int) / 65536] rfl (own_new w3 hb3.size ((n:Int) / 65536) (by omega)) (by simp) (by omega) (hb3.alloc hb3.size _).size ?_; intro v4 w4 hv4 hg4; obtain ⟨a4,c4,rfl,ho4⟩:=own_appended (xs:=([64 * cl+tg]++[131])) (ys:=[(n:Int) / 65536]) hv4 (ho3.alloc (.cells #[.int .u8 ((n:Int) / 65536)] 5)).byte (one_byte _ (by omega)); have hb4:Below w.heap.size w w4:=below_appended (hb3.alloc hb3.size _) (hb3.alloc hb3.size _).size (ho3.alloc (.cells #[.int .u8 ((n:Int) / 65536)] 5)).row hg4))
      rw [rounds_succ]
      go_wp2_with (first | (at_builtin; refine wpList_append_row _ rfl (.tmp 61) (.tmp 68) 26 rfl w.heap.size i0 Tryz.underlying26 hi hz0 hz1 hz2 _ _ _ rfl (ho4.alloc (.cells #[.int .u8 ((n:Int) / 256 % 256)] 5)).row _ 1 1 [(n:Int) / 256 % 256] rfl (own_new w4 hb4.size ((n:Int) / 256 % 256) (by omega)) (by simp) (by omega) (hb4.alloc hb4.size _).size ?_; intro v5 w5 hv5 hg5; obtain ⟨a5,c5,rfl,ho5⟩:=own_appended (xs:=(([64 * cl+tg]++[131])++[(n:Int) / 65536])) (ys:=[(n:Int) / 256 % 256]) hv5 (ho4.alloc (.cells #[.int .u8 ((n:Int) / 256 % 256)] 5)).byte (one_byte _ (by omega)); have hb5:Below w.heap.size w w5:=below_appended (hb4.alloc hb4.size _) (hb4.alloc hb4.size _).size (ho4.alloc (.cells #[.int .u8 ((n:Int) / 256 % 256)] 5)).row hg5))
      rw [rounds_succ]
      go_wp2_with (first | (at_builtin; refine wpList_append_row _ rfl (.tmp 61) (.tmp 68) 26 rfl w.heap.size i0 Tryz.underlying26 hi hz0 hz1 hz2 _ _ _ rfl (ho5.alloc (.cells #[.int .u8 ((n:Int) % 256)] 5)).row _ 1 1 [(n:Int) % 256] rfl (own_new w5 hb5.size ((n:Int) % 256) (by omega)) (by simp) (by omega) (hb5.alloc hb5.size _).size ?_; intro v6 w6 hv6 hg6; obtain ⟨a6,c6,rfl,ho6⟩:=own_appended (xs:=((([64 * cl+tg]++[131])++[(n:Int) / 65536])++[(n:Int) / 256 % 256])) (ys:=[(n:Int) % 256]) hv6 (ho5.alloc (.cells #[.int .u8 ((n:Int) % 256)] 5)).byte (one_byte _ (by omega)); have hb6:Below w.heap.size w w6:=below_appended (hb5.alloc hb5.size _) (hb5.alloc hb5.size _).size (ho5.alloc (.cells #[.int .u8 ((n:Int) % 256)] 5)).row hg6))
      rw [rounds_succ]
      go_wp2
      go_ret
      have HL:Hid (([64 * cl+tg]++lenL n).length=1+1+1+1+1):=by show _=_; rw [LN.out]; simp
      have HX:Hid ([64 * cl+tg]++lenL n=(((([64 * cl+tg]++[131])++[(n:Int) / 65536])++[(n:Int) / 256 % 256])++[(n:Int) % 256])):=by show _=_; rw [LN.out]; simp
      exact ⟨a6,c6,by rw [EL.out,HL.out]; rfl,by rw [EL.out,HL.out,HX.out]; exact ho6,hb6⟩
  ·have el:headL (.mk cl tg false bo ks) n=([64 * cl+31]++putN tg.toNat)++lenL n:=by show (if tg<31 then [firstOf cl false+tg] else (firstOf cl false+31)::putN tg.toNat)++lenL n=_; rw [if_neg ht,hfo]; rfl
   have HO1:Hid (Own w.heap.size ((w.alloc (.cells #[.int .i64 cl,.int .i64 tg,.bool false,.slice ab nb cb,.slice ak nk ck] 94)).alloc (.cells #[.int .u8 (64 * cl+31)] 5)) (some ⟨w.heap.size+1,0,none⟩) 1 1 [64 * cl+31]):=own_one w.heap.size (w.alloc (.cells #[.int .i64 cl,.int .i64 tg,.bool false,.slice ab nb cb,.slice ak nk ck] 94)) _ (by simp) (by simp) (64 * cl+31) (by omega)
   have HPU:Hid (putI tg=putN tg.toNat):=by show _=_; rw [putI,if_neg (by omega)]
   have hpl:(putN tg.toNat).length≤9:=by rw [putN,putL_len]; exact cnt_le _ (by omega)
   obtain ⟨m0,hm0⟩:∃ m0,m0=(putN tg.toNat).length:=⟨_,rfl⟩
   rw [← hm0] at hpl
   have HM:Hid (m0=(putN tg.toNat).length):=hm0
   have EL:Hid (_=_):=el
   clear el hfo hm0
   by_cases hA:n<128
   ·have hA':(n:Int)<128:=by omega
    have hwn:IntKind.u8.wrap (n:Int)=n:=by rw [IntKind.wrap_u8]; omega
    have LN:Hid (lenL n = [(n:Int)]):=by show _=_; rw [lenL,if_pos hA]
    go_enter Tryz.func98,Tryz.ntmps98
    go_wp2_with fail
    refine (specPutNum_any tg _ (by omega)).mono ?_
    rintro e w1 ⟨a1,c1,rfl,ho1,hb1⟩
    rw [HPU.out,← HM.out] at ho1 ⊢
    have hO1:=HO1.out.kept hb1
    have hB2:Below w.heap.size w w1:=hB1.trans (hb1.mono hB1.size)
    go_wp2_with (first | (at_builtin; refine wpList_append_row _ rfl (.tmp 29) (.tmp 32) 26 rfl w.heap.size i0 Tryz.underlying26 hi hz0 hz1 hz2 _ _ _ rfl hO1.row a1 m0 c1 (putN tg.toNat) rfl ho1.toRow ho1.nil (by omega) hB2.size ?_; intro v2 w2 hv2 hg2; obtain ⟨a2,c2,rfl,ho2⟩:=own_appended (xs:=[64 * cl+31]) (ys:=(putN tg.toNat)) hv2 hO1.byte ho1.byte; have hb2:Below w.heap.size w w2:=below_appended hB2 hB2.size hO1.row hg2) | (at_builtin; refine wpList_append_row _ rfl (.tmp 36) (.tmp 39) 26 rfl w.heap.size i0 Tryz.underlying26 hi hz0 hz1 hz2 _ _ _ rfl (ho2.alloc (.cells #[.int .u8 ((n:Int))] 5)).row _ 1 1 [(n:Int)] rfl (own_new w2 hb2.size ((n:Int)) (by omega)) (by simp) (by omega) (hb2.alloc hb2.size _).size ?_; intro v3 w3 hv3 hg3; obtain ⟨a3,c3,rfl,ho3⟩:=own_appended (xs:=([64 * cl+31]++putN tg.toNat)) (ys:=[(n:Int)]) hv3 (ho2.alloc (.cells #[.int .u8 ((n:Int))] 5)).byte (one_byte _ (by omega)); have hb3:Below w.heap.size w w3:=below_appended (hb2.alloc hb2.size _) (hb2.alloc hb2.size _).size (ho2.alloc (.cells #[.int .u8 ((n:Int))] 5)).row hg3))
    go_ret
    have HL:Hid ((([64 * cl+31]++putN tg.toNat)++lenL n).length=(1+m0)+1):=by show _=_; rw [LN.out]; simp; rw [HM.out]; omega
    exact ⟨a3,c3,by rw [EL.out,HL.out]; rfl,by rw [EL.out,HL.out,LN.out]; exact ho3,hb3⟩
   ·have hA':¬ (n:Int)<128:=by omega
    by_cases hB:n<256
    ·have q1:(n:Int) / 256≤0:=by omega
     have hwn:IntKind.u8.wrap (n:Int)=n:=by rw [IntKind.wrap_u8]; omega
     have LN:Hid (lenL n = [129,(n:Int)]):=by show _=_; rw [lenL,if_neg hA,if_pos hB]
     go_enter Tryz.func98,Tryz.ntmps98
     go_wp2_with fail
     refine (specPutNum_any tg _ (by omega)).mono ?_
     rintro e w1 ⟨a1,c1,rfl,ho1,hb1⟩
     rw [HPU.out,← HM.out] at ho1 ⊢
     have hO1:=HO1.out.kept hb1
     have hB2:Below w.heap.size w w1:=hB1.trans (hb1.mono hB1.size)
     go_wp2_with (first | (at_builtin; refine wpList_append_row _ rfl (.tmp 29) (.tmp 32) 26 rfl w.heap.size i0 Tryz.underlying26 hi hz0 hz1 hz2 _ _ _ rfl hO1.row a1 m0 c1 (putN tg.toNat) rfl ho1.toRow ho1.nil (by omega) hB2.size ?_; intro v2 w2 hv2 hg2; obtain ⟨a2,c2,rfl,ho2⟩:=own_appended (xs:=[64 * cl+31]) (ys:=(putN tg.toNat)) hv2 hO1.byte ho1.byte; have hb2:Below w.heap.size w w2:=below_appended hB2 hB2.size hO1.row hg2))
     refine wp_loop_rounds 9 ?_
     rw [rounds_succ]
     go_wp2_with (first | (at_builtin; refine wpList_append_row _ rfl (.tmp 49) (.tmp 53) 26 rfl w.heap.size i0 Tryz.underlying26 hi hz0 hz1 hz2 _ _ _ rfl (ho2.alloc (.cells #[.int .u8 (129)] 5)).row _ 1 1 [129] rfl (own_new w2 hb2.size (129) (by omega)) (by simp) (by omega) (hb2.alloc hb2.size _).size ?_; intro v3 w3 hv3 hg3; obtain ⟨a3,c3,rfl,ho3⟩:=own_appended (xs:=([64 * cl+31]++putN tg.toNat)) (ys:=[129]) hv3 (ho2.alloc (.cells #[.int .u8 (129)] 5)).byte (one_byte _ (by omega)); have hb3:Below w.heap.size w w3:=below_appended (hb2.alloc hb2.size _) (hb2.alloc hb2.size _).size (ho2.alloc (.cells #[.int .u8 (129)] 5)).row hg3))
     refine wp_loop_rounds 9 ?_
     rw [rounds_succ]
     go_wp2_with (first | (at_builtin; refine wpList_append_row _ rfl (.tmp 61) (.tmp 68) 26 rfl w.heap.size i0 Tryz.underlying26 hi hz0 hz1 hz2 _ _ _ rfl (ho3.alloc (.cells #[.int .u8 ((n:Int))] 5)).row _ 1 1 [(n:Int)] rfl (own_new w3 hb3.size ((n:Int)) (by omega)) (by simp) (by omega) (hb3.alloc hb3.size _).size ?_; intro v4 w4 hv4 hg4; obtain ⟨a4,c4,rfl,ho4⟩:=own_appended (xs:=(([64 * cl+31]++putN tg.toNat)++[129])) (ys:=[(n:Int)]) hv4 (ho3.alloc (.cells #[.int .u8 ((n:Int))] 5)).byte (one_byte _ (by omega)); have hb4:Below w.heap.size w w4:=below_appended (hb3.alloc hb3.size _) (hb3.alloc hb3.size _).size (ho3.alloc (.cells #[.int .u8 ((n:Int))] 5)).row hg4))
     rw [rounds_succ]
     go_wp2
     go_ret
     have HL:Hid ((([64 * cl+31]++putN tg.toNat)++lenL n).length=(1+m0)+1+1):=by show _=_; rw [LN.out]; simp; rw [HM.out]; omega
     have HX:Hid (([64 * cl+31]++putN tg.toNat)++lenL n=((([64 * cl+31]++putN tg.toNat)++[129])++[(n:Int)])):=by show _=_; rw [LN.out]; simp
     exact ⟨a4,c4,by rw [EL.out,HL.out]; rfl,by rw [EL.out,HL.out,HX.out]; exact ho4,hb4⟩
    ·by_cases hC:n<65536
     ·have q1:0<(n:Int) / 256:=by omega
      have q2:(n:Int) / 65536≤0:=by omega
      have hwa:IntKind.u8.wrap ((n:Int) / 256)=(n:Int) / 256:=by rw [IntKind.wrap_u8]; omega
      have hwn:IntKind.u8.wrap (n:Int)=(n:Int) % 256:=by rw [IntKind.wrap_u8]
      have LN:Hid (lenL n = [130,(n:Int) / 256,(n:Int) % 256]):=by show _=_; rw [lenL,if_neg hA,if_neg hB,if_pos hC]
      go_enter Tryz.func98,Tryz.ntmps98
      go_wp2_with fail
      refine (specPutNum_any tg _ (by omega)).mono ?_
      rintro e w1 ⟨a1,c1,rfl,ho1,hb1⟩
      rw [HPU.out,← HM.out] at ho1 ⊢
      have hO1:=HO1.out.kept hb1
      have hB2:Below w.heap.size w w1:=hB1.trans (hb1.mono hB1.size)
      go_wp2_with (first | (at_builtin; refine wpList_append_row _ rfl (.tmp 29) (.tmp 32) 26 rfl w.heap.size i0 Tryz.underlying26 hi hz0 hz1 hz2 _ _ _ rfl hO1.row a1 m0 c1 (putN tg.toNat) rfl ho1.toRow ho1.nil (by omega) hB2.size ?_; intro v2 w2 hv2 hg2; obtain ⟨a2,c2,rfl,ho2⟩:=own_appended (xs:=[64 * cl+31]) (ys:=(putN tg.toNat)) hv2 hO1.byte ho1.byte; have hb2:Below w.heap.size w w2:=below_appended hB2 hB2.size hO1.row hg2))
      refine wp_loop_rounds 9 ?_
      rw [rounds_succ]
      go_wp2
      rw [rounds_succ]
      go_wp2_with (first | (at_builtin; refine wpList_append_row _ rfl (.tmp 49) (.tmp 53) 26 rfl w.heap.size i0 Tryz.underlying26 hi hz0 hz1 hz2 _ _ _ rfl (ho2.alloc (.cells #[.int .u8 (130)] 5)).row _ 1 1 [130] rfl (own_new w2 hb2.size (130) (by omega)) (by simp) (by omega) (hb2.alloc hb2.size _).size ?_; intro v3 w3 hv3 hg3; obtain ⟨a3,c3,rfl,ho3⟩:=own_appended (xs:=([64 * cl+31]++putN tg.toNat)) (ys:=[130]) hv3 (ho2.alloc (.cells #[.int .u8 (130)] 5)).byte (one_byte _ (by omega)); have hb3:Below w.heap.size w w3:=below_appended (hb2.alloc hb2.size _) (hb2.alloc hb2.size _).size (ho2.alloc (.cells #[.int .u8 (130)] 5)).row hg3))
      refine wp_loop_rounds 9 ?_
      rw [rounds_succ]
      go_wp2_with (first | (at_builtin; refine wpList_append_row _ rfl (.tmp 61) (.tmp 68) 26 rfl w.heap.size i0 Tryz.underlying26 hi hz0 hz1 hz2 _ _ _ rfl (ho3.alloc (.cells #[.int .u8 ((n:Int) / 256)] 5)).row _ 1 1 [(n:Int) / 256] rfl (own_new w3 hb3.size ((n:Int) / 256) (by omega)) (by simp) (by omega) (hb3.alloc hb3.size _).size ?_; intro v4 w4 hv4 hg4; obtain ⟨a4,c4,rfl,ho4⟩:=own_appended (xs:=(([64 * cl+31]++putN tg.toNat)++[130])) (ys:=[(n:Int) / 256]) hv4 (ho3.alloc (.cells #[.int .u8 ((n:Int) / 256)] 5)).byte (one_byte _ (by omega)); have hb4:Below w.heap.size w w4:=below_appended (hb3.alloc hb3.size _) (hb3.alloc hb3.size _).size (ho3.alloc (.cells #[.int .u8 ((n:Int) / 256)] 5)).row hg4))
      rw [rounds_succ]
      go_wp2_with (first | (at_builtin; refine wpList_append_row _ rfl (.tmp 61) (.tmp 68) 26 rfl w.heap.size i0 Tryz.underlying26 hi hz0 hz1 hz2 _ _ _ rfl (ho4.alloc (.cells #[.int .u8 ((n:Int) % 256)] 5)).row _ 1 1 [(n:Int) % 256] rfl (own_new w4 hb4.size ((n:Int) % 256) (by omega)) (by simp) (by omega) (hb4.alloc hb4.size _).size ?_; intro v5 w5 hv5 hg5; obtain ⟨a5,c5,rfl,ho5⟩:=own_appended (xs:=((([64 * cl+31]++putN tg.toNat)++[130])++[(n:Int) / 256])) (ys:=[(n:Int) % 256]) hv5 (ho4.alloc (.cells #[.int .u8 ((n:Int) % 256)] 5)).byte (one_byte _ (by omega)); have hb5:Below w.heap.size w w5:=below_appended (hb4.alloc hb4.size _) (hb4.alloc hb4.size _).size (ho4.alloc (.cells #[.int .u8 ((n:Int) % 256)] 5)).row hg5))
      rw [rounds_succ]
      go_wp2
      go_ret
      have HL:Hid ((([64 * cl+31]++putN tg.toNat)++lenL n).length=(1+m0)+1+1+1):=by show _=_; rw [LN.out]; simp; rw [HM.out]; omega
      have HX:Hid (([64 * cl+31]++putN tg.toNat)++lenL n=(((([64 * cl+31]++putN tg.toNat)++[130])++[(n:Int) / 256])++[(n:Int) % 256])):=by show _=_; rw [LN.out]; simp
      exact ⟨a5,c5,by rw [EL.out,HL.out]; rfl,by rw [EL.out,HL.out,HX.out]; exact ho5,hb5⟩
     ·have q1:0<(n:Int) / 256:=by omega
      have q2:0<(n:Int) / 65536:=by omega
      have q3:(n:Int) / 16777216≤0:=by omega
      have hwb:IntKind.u8.wrap ((n:Int) / 65536)=(n:Int) / 65536:=by rw [IntKind.wrap_u8]; omega
      have hwa:IntKind.u8.wrap ((n:Int) / 256)=(n:Int) / 256 % 256:=by rw [IntKind.wrap_u8]
      have hwn:IntKind.u8.wrap (n:Int)=(n:Int) % 256:=by rw [IntKind.wrap_u8]
      have LN:Hid (lenL n = [131,(n:Int) / 65536,(n:Int) / 256 % 256,(n:Int) % 256]):=by show _=_; rw [lenL,if_neg hA,if_neg hB,if_neg hC]
      go_enter Tryz.func98,Tryz.ntmps98
      go_wp2_with fail
      refine (specPutNum_any tg _ (by omega)).mono ?_
      rintro e w1 ⟨a1,c1,rfl,ho1,hb1⟩
      rw [HPU.out,← HM.out] at ho1 ⊢
      have hO1:=HO1.out.kept hb1
      have hB2:Below w.heap.size w w1:=hB1.trans (hb1.mono hB1.size)
      go_wp2_with (first | (at_builtin; refine wpList_append_row _ rfl (.tmp 29) (.tmp 32) 26 rfl w.heap.size i0 Tryz.underlying26 hi hz0 hz1 hz2 _ _ _ rfl hO1.row a1 m0 c1 (putN tg.toNat) rfl ho1.toRow ho1.nil (by omega) hB2.size ?_; intro v2 w2 hv2 hg2; obtain ⟨a2,c2,rfl,ho2⟩:=own_appended (xs:=[64 * cl+31]) (ys:=(putN tg.toNat)) hv2 hO1.byte ho1.byte; have hb2:Below w.heap.size w w2:=below_appended hB2 hB2.size hO1.row hg2))
      refine wp_loop_rounds 9 ?_
      rw [rounds_succ]
      go_wp2
      rw [rounds_succ]
      go_wp2
      rw [rounds_succ]
      go_wp2_with (first | (at_builtin; refine wpList_append_row _ rfl (.tmp 49) (.tmp 53) 26 rfl w.heap.size i0 Tryz.underlying26 hi hz0 hz1 hz2 _ _ _ rfl (ho2.alloc (.cells #[.int .u8 (131)] 5)).row _ 1 1 [131] rfl (own_new w2 hb2.size (131) (by omega)) (by simp) (by omega) (hb2.alloc hb2.size _).size ?_; intro v3 w3 hv3 hg3; obtain ⟨a3,c3,rfl,ho3⟩:=own_appended (xs:=([64 * cl+31]++putN tg.toNat)) (ys:=[131]) hv3 (ho2.alloc (.cells #[.int .u8 (131)] 5)).byte (one_byte _ (by omega)); have hb3:Below w.heap.size w w3:=below_appended (hb2.alloc hb2.size _) (hb2.alloc hb2.size _).size (ho2.alloc (.cells #[.int .u8 (131)] 5)).row hg3))
      refine wp_loop_rounds 9 ?_
      rw [rounds_succ]
      go_wp2_with (first | (at_builtin; refine wpList_append_row _ rfl (.tmp 61) (.tmp 68) 26 rfl w.heap.size i0 Tryz.underlying26 hi hz0 hz1 hz2 _ _ _ rfl (ho3.alloc (.cells #[.int .u8 ((n:Int) / 65536)] 5)).row _ 1 1 [(n:Int) / 65536] rfl (own_new w3 hb3.size ((n:Int) / 65536) (by omega)) (by simp) (by omega) (hb3.alloc hb3.size _).size ?_; intro v4 w4 hv4 hg4; obtain ⟨a4,c4,rfl,ho4⟩:=own_appended (xs:=(([64 * cl+31]++putN tg.toNat)++[131])) (ys:=[(n:Int) / 65536]) hv4 (ho3.alloc (.cells #[.int .u8 ((n:Int) / 65536)] 5)).byte (one_byte _ (by omega)); have hb4:Below w.heap.size w w4:=below_appended (hb3.alloc hb3.size _) (hb3.alloc hb3.size _).size (ho3.alloc (.cells #[.int .u8 ((n:Int) / 65536)] 5)).row hg4))
      rw [rounds_succ]
      go_wp2_with (first | (at_builtin; refine wpList_append_row _ rfl (.tmp 61) (.tmp 68) 26 rfl w.heap.size i0 Tryz.underlying26 hi hz0 hz1 hz2 _ _ _ rfl (ho4.alloc (.cells #[.int .u8 ((n:Int) / 256 % 256)] 5)).row _ 1 1 [(n:Int) / 256 % 256] rfl (own_new w4 hb4.size ((n:Int) / 256 % 256) (by omega)) (by simp) (by omega) (hb4.alloc hb4.size _).size ?_; intro v5 w5 hv5 hg5; obtain ⟨a5,c5,rfl,ho5⟩:=own_appended (xs:=((([64 * cl+31]++putN tg.toNat)++[131])++[(n:Int) / 65536])) (ys:=[(n:Int) / 256 % 256]) hv5 (ho4.alloc (.cells #[.int .u8 ((n:Int) / 256 % 256)] 5)).byte (one_byte _ (by omega)); have hb5:Below w.heap.size w w5:=below_appended (hb4.alloc hb4.size _) (hb4.alloc hb4.size _).size (ho4.alloc (.cells #[.int .u8 ((n:Int) / 256 % 256)] 5)).row hg5))
      rw [rounds_succ]
      go_wp2_with (first | (at_builtin; refine wpList_append_row _ rfl (.tmp 61) (.tmp 68) 26 rfl w.heap.size i0 Tryz.underlying26 hi hz0 hz1 hz2 _ _ _ rfl (ho5.alloc (.cells #[.int .u8 ((n:Int) % 256)] 5)).row _ 1 1 [(n:Int) % 256] rfl (own_new w5 hb5.size ((n:Int) % 256) (by omega)) (by simp) (by omega) (hb5.alloc hb5.size _).size ?_; intro v6 w6 hv6 hg6; obtain ⟨a6,c6,rfl,ho6⟩:=own_appended (xs:=(((([64 * cl+31]++putN tg.toNat)++[131])++[(n:Int) / 65536])++[(n:Int) / 256 % 256])) (ys:=[(n:Int) % 256]) hv6 (ho5.alloc (.cells #[.int .u8 ((n:Int) % 256)] 5)).byte (one_byte _ (by omega)); have hb6:Below w.heap.size w w6:=below_appended (hb5.alloc hb5.size _) (hb5.alloc hb5.size _).size (ho5.alloc (.cells #[.int .u8 ((n:Int) % 256)] 5)).row hg6))
      rw [rounds_succ]
      go_wp2
      go_ret
      have HL:Hid ((([64 * cl+31]++putN tg.toNat)++lenL n).length=(1+m0)+1+1+1+1):=by show _=_; rw [LN.out]; simp; rw [HM.out]; omega
      have HX:Hid (([64 * cl+31]++putN tg.toNat)++lenL n=((((([64 * cl+31]++putN tg.toNat)++[131])++[(n:Int) / 65536])++[(n:Int) / 256 % 256])++[(n:Int) % 256])):=by show _=_; rw [LN.out]; simp
      exact ⟨a6,c6,by rw [EL.out,HL.out]; rfl,by rw [EL.out,HL.out,HX.out]; exact ho6,hb6⟩
def inX (r:Nat)(x:It):Option (List Int):=encK (enc r) x.body x.kids
theorem shape_parts {x:It}(h:x.shape=true):(x.cons=true→x.body = [])∧(x.cons=false→x.kids = []):=by
 unfold It.shape at h
 simp only [Bool.and_eq_true] at h
 constructor
 ·intro hc
  have:=h.2
  rw [hc] at this
  simpa using this
 ·intro hc
  have:=h.2
  rw [hc] at this
  simpa using this
theorem enc_inX_none (r:Nat)(x:It)(hs:x.shape=true)(h:inX r x=none):enc (r+1) x=none:=by
 have hp:=shape_parts hs
 unfold inX at h
 cases hc:x.cons with
 | true=>rw [hp.1 hc] at h; exact enc_none r x hs (by rw [innerBy,if_pos hc]; exact h)
 | false=>rw [hp.2 hc] at h; simp [encK] at h
theorem enc_inX_long (r:Nat)(x:It)(inner:List Int)(hs:x.shape=true)(h:inX r x=some inner)(hl:¬ (headL x inner.length++inner).length≤50000):enc (r+1) x=none:=by
 have hp:=shape_parts hs
 unfold inX at h
 cases hc:x.cons with
 | true=>rw [hp.1 hc] at h; exact enc_long r x inner hs (by rw [innerBy,if_pos hc]; exact h) hl
 | false =>
  rw [hp.2 hc] at h
  simp [encK] at h
  by_cases hb:x.body.length≤50000
  ·exact enc_long r x inner hs (by rw [innerBy,if_neg (by simp [hc]),if_pos hb,h]) hl
  ·exact enc_none r x hs (by rw [innerBy,if_neg (by simp [hc]),if_neg hb])
theorem enc_inX_some (r:Nat)(x:It)(inner:List Int)(hs:x.shape=true)(h:inX r x=some inner)(hl:(headL x inner.length++inner).length≤50000):enc (r+1) x=some (headL x inner.length++inner):=by
 have hp:=shape_parts hs
 unfold inX at h
 cases hc:x.cons with
 | true=>rw [hp.1 hc] at h; exact enc_some r x inner hs (by rw [innerBy,if_pos hc]; exact h) hl
 | false =>
  rw [hp.2 hc] at h
  simp [encK] at h
  have hb:x.body.length≤50000:=by rw [h]; rw [List.length_append] at hl; omega
  exact enc_some r x inner hs (by rw [innerBy,if_neg (by simp [hc]),if_pos hb,h]) hl
end Go.Proofs.YtnmplldhdfingaaGreatDoor
