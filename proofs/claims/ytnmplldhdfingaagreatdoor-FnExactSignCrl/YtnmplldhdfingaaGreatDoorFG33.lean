import Derived.Test.YtnmplldhdfingaaGreatDoorFG31
set_option maxRecDepth 10000
set_option maxHeartbeats 8000000
set_option linter.unusedVariables false
namespace Go.Proofs.YtnmplldhdfingaaGreatDoor
open Go.RowKit
theorem own_nilE (B:Nat)(w:World):Own B w none 0 0 []:=⟨World.ownsRow_nil w B 5 1,by simp⟩
theorem own_zeroE (B:Nat)(w:World)(g:Nat)(hg:w.heap.size=g)(h:B≤w.heap.size):Own B (w.alloc (.cells #[] 5)) (some ⟨g,0,none⟩) 0 0 []:=by
 subst hg
 exact ⟨World.ownsRow_lit w #[] 0 h (by decide) rfl,by simp⟩
theorem clone_any (a:Option Addr)(n cap:Nat)(bs:List Int)(w:World)(h:Row w a n bs)(hnil:a=none→cap=0)(hn:n≤1048576) :
  Calls Tryz.prog 75 #[.slice a n cap] w fun e w'=>∃ a' cap',e=.returned (.slice a' n cap')∧Own w.heap.size w' a' n cap' bs∧Below w.heap.size w w':=by
 obtain ⟨i0,hi,hz0,hz1,hz2⟩:=info_parts Tryz.info5
 cases a with
 | none =>
  obtain ⟨rfl,rfl⟩:=row_none h
  obtain rfl:=hnil rfl
  clear h
  have he:∀ w:World,(binOp .eql 26 (.slice none 0 0) (.slice none 0 0)).run Tryz.prog w=.ok (.bool true) w:=fun _=>rfl
  go_enter Tryz.func75,Tryz.ntmps75
  go_wp2
  go_ret
  exact ⟨none,0,rfl,own_nilE _ _,Below.refl _ _⟩
 | some ad =>
  have hB1:Below w.heap.size w (w.alloc (.cells #[] 5)):=(Below.refl _ _).alloc (Nat.le_refl _) _
  have HO:Hid (Own w.heap.size (w.alloc (.cells #[] 5)) (some ⟨w.heap.size,0,none⟩) 0 0 []):=own_zeroE _ _ _ rfl (Nat.le_refl _)
  have HR:Hid (Row w (some ad) n bs):=h
  clear h
  have he:∀ w:World,(binOp .eql 26 (.slice (some ad) n cap) (.slice none 0 0)).run Tryz.prog w=.ok (.bool false) w:=fun _=>rfl
  go_enter Tryz.func75,Tryz.ntmps75
  go_wp2_with (at_builtin; refine wpList_append_row _ rfl (.tmp 5) (.tmp 6) 26 rfl w.heap.size i0 Tryz.underlying26 hi hz0 hz1 hz2 _ _ _ rfl HO.out.row (some ad) n cap bs rfl (HR.out.kept hB1) hnil (by omega) hB1.size ?_; intro v1 w1 hv1 hg1; obtain ⟨a1,c1,rfl,ho1⟩:=own_appended (xs:=[]) (ys:=bs) hv1 HO.out.byte HR.out.byte; have hb1:Below w.heap.size w w1:=below_appended hB1 hB1.size HO.out.row hg1)
  go_ret
  have ho1':Own w.heap.size w1 a1 n c1 bs:=by simpa using ho1
  exact ⟨a1,c1,by simp [Array.getD],ho1',hb1⟩
open Go.RowKit
variable {P:Program} {Q:Exit→Act→World→Prop}
theorem opw_shl1 {o:Oper}{a:Act}{w:World}{K:Act→World→Prop}(t t2 y:Nat)(ho:o.op=.binOp .shl t (.const (.int .i64 1)) (.tmp y) t2)(r:Int)(hy:aT a y=.int .i64 r)(hr:1≤r∧r≤6)(h:K (a.put o.dst (.int .i64 (2 ^ r.toNat))) w):o.wp P a w K Q:=by
 refine opw_value _ ?_ h
 have hy':a.eval (.tmp y)=.int .i64 r:=hy
 have hc:a.eval (.const (.int .i64 1))=.int .i64 1:=rfl
 rcases (by omega:r=1∨r=2∨r=3∨r=4∨r=5∨r=6) with rfl | rfl | rfl | rfl | rfl | rfl <;> (unfold execOp; simp only [ho,hy',hc]; rfl)
theorem opw_and {o:Oper}{a:Act}{w:World}{K:Act→World→Prop}(t t2 x y:Nat)(ho:o.op=.binOp .and t (.tmp x) (.tmp y) t2)(p q:Int)(hx:aT a x=.int .i64 p)(hy:aT a y=.int .i64 q)(h:K (a.put o.dst (.int .i64 (bits BinOp.and IntKind.i64 p q))) w):o.wp P a w K Q:=by
 refine opw_value _ ?_ h
 have hx':a.eval (.tmp x)=.int .i64 p:=hx
 have hy':a.eval (.tmp y)=.int .i64 q:=hy
 unfold execOp
 simp only [ho,hx',hy']
 simp [go_sem]
theorem opw_neq0 {o:Oper}{a:Act}{w:World}{K:Act→World→Prop}(t t2 x:Nat)(ho:o.op=.binOp .neq t (.tmp x) (.const (.int .i64 0)) t2)(p:Int)(hx:aT a x=.int .i64 p)(h:K (a.put o.dst (.bool (p != 0))) w):o.wp P a w K Q:=by
 refine opw_value _ ?_ h
 have hx':a.eval (.tmp x)=.int .i64 p:=hx
 have hc:a.eval (.const (.int .i64 0))=.int .i64 0:=rfl
 unfold execOp
 simp only [ho,hx',hc]
 simp [go_sem]
theorem shl_table:((List.range 127).all fun v=>(List.range 7).all fun r=>(bits BinOp.and IntKind.i64 (v:Int) (2 ^ r) != 0) == decide ((v:Int) / 2 ^ r % 2=1))=true:=by decide +kernel
theorem shl_bits (s r:Int)(h0:2≤s)(h1:s≤126)(hr:1≤r∧r≤6):(bits BinOp.and IntKind.i64 s (2 ^ r.toNat) != 0)=decide (s / 2 ^ r.toNat % 2=1):=by
 obtain ⟨k,rfl⟩:∃ k:Nat,s=k:=⟨s.toNat,by omega⟩
 have h2:=List.all_eq_true.1 shl_table k (List.mem_range.2 (by omega))
 exact beq_iff_eq.1 (List.all_eq_true.1 h2 r.toNat (List.mem_range.2 (by omega)))
def rs3 (a1:Option Addr)(n1 c1:Nat)(a2:Option Addr)(n2 c2:Nat)(a3:Option Addr)(n3 c3:Nat)(x:CP)(r:Int)(G B:Nat):RSpec where
 m:=11
 n:=12
 slots:=[10,11,12,13,14,15,16,17,18,19,4,100011]
 kills:=[[],[],[],[],[],[],[],[],[],[],[],[]]
 pres:=[[],[],[],[],[],[],[],[],[],[],[],[]]
 fact:=fun k v w=>match k with
  | 0=>v=.int .i64 r
  | 1=>v=.bool true
  | 2=>v=.bool true
  | 3=>v=.pointer (some ⟨G,5,none⟩)
  | 4=>v=.int .i64 x.scope
  | 5=>v=.int .i64 r
  | 6=>v=.int .i64 (2 ^ r.toNat)
  | 7=>v=.int .i64 (bits BinOp.and IntKind.i64 x.scope (2 ^ r.toNat))
  | 8=>v=.bool (bits BinOp.and IntKind.i64 x.scope (2 ^ r.toNat) != 0)
  | 9=>v=.bool (bits BinOp.and IntKind.i64 x.scope (2 ^ r.toNat) != 0)
  | 10=>v=.bool (bits BinOp.and IntKind.i64 x.scope (2 ^ r.toNat) != 0)
  | _=>w.heap[G]? = some (.cells #[.slice a1 n1 c1,.int .i64 x.num,.int .i64 x.base,.int .i64 x.tm,.int .i64 x.next,.int .i64 x.scope,.bool x.ind,.slice a2 n2 c2,.slice a3 n3 c3] 38 (0,0))
theorem rs3_stb (a1:Option Addr)(n1 c1:Nat)(a2:Option Addr)(n2 c2:Nat)(a3:Option Addr)(n3 c3:Nat)(x:CP)(r:Int)(G B:Nat)(k:Nat)(hk:k<12):StB ((rs3 a1 n1 c1 a2 n2 c2 a3 n3 c3 x r G (B)).fact k):=by
 match k,hk with
 | 0,_=>exact fun _ _ _ h _=>h
 | 1,_=>exact fun _ _ _ h _=>h
 | 2,_=>exact fun _ _ _ h _=>h
 | 3,_=>exact fun _ _ _ h _=>h
 | 4,_=>exact fun _ _ _ h _=>h
 | 5,_=>exact fun _ _ _ h _=>h
 | 6,_=>exact fun _ _ _ h _=>h
 | 7,_=>exact fun _ _ _ h _=>h
 | 8,_=>exact fun _ _ _ h _=>h
 | 9,_=>exact fun _ _ _ h _=>h
 | 10,_=>exact fun _ _ _ h _=>h
 | 11,_=>exact fun _ _ _ q_0 hb=>below_kept q_0 hb
 | k+12,hk=>omega
def rs3f (a1:Option Addr)(n1 c1:Nat)(a2:Option Addr)(n2 c2:Nat)(a3:Option Addr)(n3 c3:Nat)(x:CP)(r:Int)(G B:Nat):RSpec where
 m:=11
 n:=12
 slots:=[10,11,12,13,14,15,16,17,18,19,4,100011]
 kills:=[[],[],[],[],[],[],[],[],[],[],[],[]]
 pres:=[[],[],[],[],[],[],[],[],[],[],[],[]]
 fact:=fun k v w=>match k with
  | 0=>v=.int .i64 r
  | 1=>v=.bool false
  | 2=>v=.bool false
  | 3=>v=undef
  | 4=>v=undef
  | 5=>v=undef
  | 6=>v=undef
  | 7=>v=undef
  | 8=>v=undef
  | 9=>v=.bool false
  | 10=>v=.bool false
  | _=>w.heap[G]? = some (.cells #[.slice a1 n1 c1,.int .i64 x.num,.int .i64 x.base,.int .i64 x.tm,.int .i64 x.next,.int .i64 x.scope,.bool x.ind,.slice a2 n2 c2,.slice a3 n3 c3] 38 (0,0))
theorem rs3f_stb (a1:Option Addr)(n1 c1:Nat)(a2:Option Addr)(n2 c2:Nat)(a3:Option Addr)(n3 c3:Nat)(x:CP)(r:Int)(G B:Nat)(k:Nat)(hk:k<12):StB ((rs3f a1 n1 c1 a2 n2 c2 a3 n3 c3 x r G (B)).fact k):=by
 match k,hk with
 | 0,_=>exact fun _ _ _ h _=>h
 | 1,_=>exact fun _ _ _ h _=>h
 | 2,_=>exact fun _ _ _ h _=>h
 | 3,_=>exact fun _ _ _ h _=>h
 | 4,_=>exact fun _ _ _ h _=>h
 | 5,_=>exact fun _ _ _ h _=>h
 | 6,_=>exact fun _ _ _ h _=>h
 | 7,_=>exact fun _ _ _ h _=>h
 | 8,_=>exact fun _ _ _ h _=>h
 | 9,_=>exact fun _ _ _ h _=>h
 | 10,_=>exact fun _ _ _ h _=>h
 | 11,_=>exact fun _ _ _ q_0 hb=>below_kept q_0 hb
 | k+12,hk=>omega
theorem reasonOk_any (a1:Option Addr)(n1 c1:Nat)(a2:Option Addr)(n2 c2:Nat)(a3:Option Addr)(n3 c3:Nat)(x:CP)(r:Int)(w:World)(hb : -1≤x.base)(hs0:2≤x.scope)(hs1:x.scope≤126) :
  Calls Tryz.prog 124 #[crv a1 n1 c1 a2 n2 c2 a3 n3 c3 x,.int .i64 r] w (Says (reaP x r) w):=by
 have HB:Hid (-1≤x.base):=hb
 have HS:Hid (2≤x.scope∧x.scope≤126):=⟨hs0,hs1⟩
 clear hb hs0 hs1
 have HF:Hid (∀ W,Calls Tryz.prog 138 #[crv a1 n1 c1 a2 n2 c2 a3 n3 c3 x] W fun e w'=>e=.returned (.bool (x.base == -1))∧Below W.heap.size W w'):=fun W=>isFull_any a1 n1 c1 a2 n2 c2 a3 n3 c3 x W
 unfold crv at HF ⊢
 obtain ⟨w0,hw0⟩:∃ w0,w0=w.alloc (.cells #[.slice a1 n1 c1,.int .i64 x.num,.int .i64 x.base,.int .i64 x.tm,.int .i64 x.next,.int .i64 x.scope,.bool x.ind,.slice a2 n2 c2,.slice a3 n3 c3] 38):=⟨_,rfl⟩
 have hB0:Below w.heap.size w w0:=by rw [hw0]; exact (Below.refl _ _).alloc (Nat.le_refl _) _
 have hh0:w0.heap[w.heap.size]? = some (.cells #[.slice a1 n1 c1,.int .i64 x.num,.int .i64 x.base,.int .i64 x.tm,.int .i64 x.next,.int .i64 x.scope,.bool x.ind,.slice a2 n2 c2,.slice a3 n3 c3] 38):=by rw [hw0]; exact heap_alloc_new w _
 have p0:w0.cell? ⟨w.heap.size,0,none⟩=some (.slice a1 n1 c1):=qk hh0 rfl
 have p1:w0.cell? ⟨w.heap.size,1,none⟩=some (.int .i64 x.num):=qk hh0 rfl
 have p2:w0.cell? ⟨w.heap.size,2,none⟩=some (.int .i64 x.base):=qk hh0 rfl
 have p3:w0.cell? ⟨w.heap.size,3,none⟩=some (.int .i64 x.tm):=qk hh0 rfl
 have p4:w0.cell? ⟨w.heap.size,4,none⟩=some (.int .i64 x.next):=qk hh0 rfl
 have p5:w0.cell? ⟨w.heap.size,5,none⟩=some (.int .i64 x.scope):=qk hh0 rfl
 have p6:w0.cell? ⟨w.heap.size,6,none⟩=some (.bool x.ind):=qk hh0 rfl
 have p7:w0.cell? ⟨w.heap.size,7,none⟩=some (.slice a2 n2 c2):=qk hh0 rfl
 have p8:w0.cell? ⟨w.heap.size,8,none⟩=some (.slice a3 n3 c3):=qk hh0 rfl
 have HH0:Hid (w0.heap[w.heap.size]? = some (.cells #[.slice a1 n1 c1,.int .i64 x.num,.int .i64 x.base,.int .i64 x.tm,.int .i64 x.next,.int .i64 x.scope,.bool x.ind,.slice a2 n2 c2,.slice a3 n3 c3] 38)):=hh0
 have HW:Hid (_=_):=hw0
 clear hw0 hh0
 go_enter Tryz.func124,Tryz.ntmps124
 go_upto_region 1 with fail
 rw [← HW.out]
 clear HW
 by_cases h7:r=7
 ·subst h7
  go_wp2_with fail
  refine (HF.out _).mono ?_
  rintro e w1 ⟨rfl,hb1⟩
  have hB1:=hB0.trans (hb1.mono hB0.size)
  clear p0 p1 p2 p3 p4 p5 p6 p7 p8 HF
  by_cases hq:x.base = -1
  ·have hq2:(x.base == -1)=true:=by simp [hq]
   have HN:Hid (¬ reaP x 7):=fun q=>by rcases q with q | q <;> omega
   rw [hq2]
   clear hq hq2
   go_wp2
   go_ret
   exact says_f HN.out hB1
  ·have hq2:(x.base == -1)=false:=by simp [hq]
   have HT:Hid (reaP x 7):=.inl ⟨rfl,by have:=HB.out; omega⟩
   rw [hq2]
   clear hq hq2
   go_wp2
   go_ret
   exact says_t HT.out hB1
 ·have q7:(r == 7)=false:=by simp [h7]
  clear p0 p1 p2 p3 p4 p6 p7 p8 HF
  by_cases hr:1≤r∧r≤6
  ·have hv:=shl_bits x.scope r HS.out.1 HS.out.2 hr
   have HR:Hid (1≤r∧r≤6):=hr
   have HQ:Hid (¬ r=7):=h7
   have HIB:Hid (∀ W:World,Calls Tryz.prog 60 #[.int .i64 r,.int .i64 1,.int .i64 6] W fun e w2=>e=.returned (.bool true)∧Below W.heap.size W w2):=fun W=>(inBounds_any r 1 6 W).mono (fun e w2 q=>⟨by rw [q.1,decide_eq_true hr],by rw [← q.2]; exact Below.refl _ _⟩)
   clear hr h7 p5
   have HBB:w0.heap.size≤w0.heap.size:=Nat.le_refl _
   go_upto_region 3 with fail
   refine wp_region_rk (rs3 a1 n1 c1 a2 n2 c2 a3 n3 c3 x r w.heap.size (w0.heap.size)) [4,10,11,12,13,14,15,16,17,18,19] (w0.heap.size) (fun a0=>a0.tmps.size=20∧aT a0 1=.int .i64 r∧aT a0 2=.pointer (some ⟨w.heap.size,0,none⟩)) (by kernel_rfl) rfl (by kernel_rfl) rfl ⟨rfl,rfl,rfl⟩ (rs3_stb a1 n1 c1 a2 n2 c2 a3 n3 c3 x r w.heap.size (w0.heap.size)) ?_ ?_ ?_
   ·intro k hk hk2
    match k,hk,hk2 with
    | 11,_,_=>exact HH0.out
    | 0,hk,_=>exact absurd hk (by show ¬ (11≤0); omega)
    | 1,hk,_=>exact absurd hk (by show ¬ (11≤1); omega)
    | 2,hk,_=>exact absurd hk (by show ¬ (11≤2); omega)
    | 3,hk,_=>exact absurd hk (by show ¬ (11≤3); omega)
    | 4,hk,_=>exact absurd hk (by show ¬ (11≤4); omega)
    | 5,hk,_=>exact absurd hk (by show ¬ (11≤5); omega)
    | 6,hk,_=>exact absurd hk (by show ¬ (11≤6); omega)
    | 7,hk,_=>exact absurd hk (by show ¬ (11≤7); omega)
    | 8,hk,_=>exact absurd hk (by show ¬ (11≤8); omega)
    | 9,hk,_=>exact absurd hk (by show ¬ (11≤9); omega)
    | 10,hk,_=>exact absurd hk (by show ¬ (11≤10); omega)
    | k+12,_,hk2=>exact absurd hk2 (by show ¬ (k+12<12); omega)
   ·rintro a0 ⟨hz,g1,g2⟩
    refine StepsRK.cons ?_ (StepsRK.cons ?_ (StepsRK.cons ?_ (StepsRK.cons ?_ (StepsRK.cons ?_ (StepsRK.cons ?_ (StepsRK.cons ?_ (StepsRK.cons ?_ (StepsRK.cons ?_ (StepsRK.cons ?_ (StepsRK.cons ?_ (StepsRK.nil)))))))))))
    ·intro lQ b W hI hUN hED KQ hKQ
     refine rk_plain rfl ?_
     exact opw_move 1 rfl (hKQ.out _ _ (hI.put 0 10 rfl rfl (by rw [hz]; decide) rfl hUN rfl HBB (rs3_stb a1 n1 c1 a2 n2 c2 a3 n3 c3 x r w.heap.size (w0.heap.size)) (Below.refl _ _) ((hI.fr.same 1 (by decide)).trans g1)))
    ·intro lQ b W hI hUN hED KQ hKQ
     refine rk_plain rfl ?_
     have f0:=hI.got 0 (od rfl) (edge hED 0 (by kernel_rfl)) rfl
     replace f0:aT b 10=.int .i64 r:=f0
     refine opw_call 60 #[.tmp 10,.const (.int .i64 1),.const (.int .i64 6)] _ _ _ rfl Tryz.func60 (by kernel_rfl) rfl #[.int .i64 r,.int .i64 1,.int .i64 6] (by simp [ev,evc,f0]) ?_
     refine (HIB.out W).mono ?_
     rintro e W2 ⟨rfl,hb⟩
     exact ⟨_,rfl,hKQ.out _ _ (hI.put 1 11 rfl rfl (by rw [hz]; decide) rfl hUN rfl HBB (rs3_stb a1 n1 c1 a2 n2 c2 a3 n3 c3 x r w.heap.size (w0.heap.size)) hb rfl)⟩
    ·intro lQ b W hI hUN hED KQ hKQ
     refine rk_plain rfl ?_
     have f:=hI.got 1 (od rfl) (edge hED 1 (by kernel_rfl)) rfl
     exact opw_move 11 rfl (hKQ.out _ _ (hI.put 2 12 rfl rfl (by rw [hz]; decide) rfl hUN rfl HBB (rs3_stb a1 n1 c1 a2 n2 c2 a3 n3 c3 x r w.heap.size (w0.heap.size)) (Below.refl _ _) f))
    ·intro lQ b W hI hUN hED KQ hKQ
     refine rk_take 2 true 12 rfl rfl (hI.got 2 (od rfl) (edge hED 2 (by kernel_rfl)) rfl) ?_
     exact opw_field 38 2 5 rfl _ ((hI.fr.same 2 (by decide)).trans g2) _ (by kernel_rfl) (hKQ.out _ _ (hI.put 3 13 rfl rfl (by rw [hz]; decide) rfl hUN rfl HBB (rs3_stb a1 n1 c1 a2 n2 c2 a3 n3 c3 x r w.heap.size (w0.heap.size)) (Below.refl _ _) rfl))
    ·intro lQ b W hI hUN hED KQ hKQ
     refine rk_take 2 true 12 rfl rfl (hI.got 2 (od rfl) (edge hED 2 (by kernel_rfl)) rfl) ?_
     have f:=hI.got 3 (od rfl) (edge hED 3 (by kernel_rfl)) rfl
     have hg:=(hI.vot 11 (od rfl) (od rfl) rfl)
     have hc:W.cell? ⟨w.heap.size,5,none⟩=some (.int .i64 x.scope):=qk hg rfl
     exact opw_load1 2 13 rfl _ f _ (by simp [Instr.loadAt,go_sem,hc]) (hKQ.out _ _ (hI.put 4 14 rfl rfl (by rw [hz]; decide) rfl hUN rfl HBB (rs3_stb a1 n1 c1 a2 n2 c2 a3 n3 c3 x r w.heap.size (w0.heap.size)) (Below.refl _ _) rfl))
    ·intro lQ b W hI hUN hED KQ hKQ
     refine rk_take 2 true 12 rfl rfl (hI.got 2 (od rfl) (edge hED 2 (by kernel_rfl)) rfl) ?_
     exact opw_move 1 rfl (hKQ.out _ _ (hI.put 5 15 rfl rfl (by rw [hz]; decide) rfl hUN rfl HBB (rs3_stb a1 n1 c1 a2 n2 c2 a3 n3 c3 x r w.heap.size (w0.heap.size)) (Below.refl _ _) ((hI.fr.same 1 (by decide)).trans g1)))
    ·intro lQ b W hI hUN hED KQ hKQ
     refine rk_take 2 true 12 rfl rfl (hI.got 2 (od rfl) (edge hED 2 (by kernel_rfl)) rfl) ?_
     have f:aT b 15=.int .i64 r:=hI.got 5 (od rfl) (edge hED 5 (by kernel_rfl)) rfl
     exact opw_shl1 _ _ 15 rfl r f HR.out (hKQ.out _ _ (hI.put 6 16 rfl rfl (by rw [hz]; decide) rfl hUN rfl HBB (rs3_stb a1 n1 c1 a2 n2 c2 a3 n3 c3 x r w.heap.size (w0.heap.size)) (Below.refl _ _) rfl))
    ·intro lQ b W hI hUN hED KQ hKQ
     refine rk_take 2 true 12 rfl rfl (hI.got 2 (od rfl) (edge hED 2 (by kernel_rfl)) rfl) ?_
     have f:aT b 14=.int .i64 x.scope:=hI.got 4 (od rfl) (edge hED 4 (by kernel_rfl)) rfl
     have f2:aT b 16=.int .i64 (2 ^ r.toNat):=hI.got 6 (od rfl) (edge hED 6 (by kernel_rfl)) rfl
     exact opw_and _ _ 14 16 rfl _ _ f f2 (hKQ.out _ _ (hI.put 7 17 rfl rfl (by rw [hz]; decide) rfl hUN rfl HBB (rs3_stb a1 n1 c1 a2 n2 c2 a3 n3 c3 x r w.heap.size (w0.heap.size)) (Below.refl _ _) rfl))
    ·intro lQ b W hI hUN hED KQ hKQ
     refine rk_take 2 true 12 rfl rfl (hI.got 2 (od rfl) (edge hED 2 (by kernel_rfl)) rfl) ?_
     have f:aT b 17=.int .i64 (bits BinOp.and IntKind.i64 x.scope (2 ^ r.toNat)):=hI.got 7 (od rfl) (edge hED 7 (by kernel_rfl)) rfl
     exact opw_neq0 _ _ 17 rfl _ f (hKQ.out _ _ (hI.put 8 18 rfl rfl (by rw [hz]; decide) rfl hUN rfl HBB (rs3_stb a1 n1 c1 a2 n2 c2 a3 n3 c3 x r w.heap.size (w0.heap.size)) (Below.refl _ _) rfl))
    ·intro lQ b W hI hUN hED KQ hKQ
     refine rk_plain rfl ?_
     have fc:aT b 12=.bool true:=hI.got 2 (od rfl) (edge hED 2 (by kernel_rfl)) rfl
     have f:=hI.got 8 (od rfl) (edge hED 8 (by kernel_rfl)) rfl
     replace f:aT b 18=.bool (bits BinOp.and IntKind.i64 x.scope (2 ^ r.toNat) != 0):=f
     exact opw_pick_t 12 _ _ rfl fc _ f (hKQ.out _ _ (hI.put 9 19 rfl rfl (by rw [hz]; decide) rfl hUN rfl HBB (rs3_stb a1 n1 c1 a2 n2 c2 a3 n3 c3 x r w.heap.size (w0.heap.size)) (Below.refl _ _) rfl))
    ·intro lQ b W hI hUN hED KQ hKQ
     refine rk_plain rfl ?_
     have f:=hI.got 9 (od rfl) (edge hED 9 (by kernel_rfl)) rfl
     exact opw_assign 19 rfl (hKQ.out _ _ (hI.put 10 4 rfl rfl (by rw [hz]; decide) rfl hUN rfl HBB (rs3_stb a1 n1 c1 a2 n2 c2 a3 n3 c3 x r w.heap.size (w0.heap.size)) (Below.refl _ _) f))
   ·intro b W hf hb F
    have e4:aT b 4=.bool (bits BinOp.and IntKind.i64 x.scope (2 ^ r.toNat) != 0):=F 10 (od rfl) rfl
    rw [hf.eq]
    simp only [puts,Act.put,List.setIfInBounds_toArray,List.set_cons_zero,List.set_cons_succ,e4,hv]
    clear hf F e4
    go_wp2
    go_ret
    exact ⟨_,rfl,⟨fun q=>.inr ⟨HR.out,of_decide_eq_true q⟩,fun q=>decide_eq_true (q.elim (fun z=>absurd z.1 HQ.out) (fun z=>z.2))⟩,hB0.trans (hb.mono hB0.size)⟩
  ·have HN:Hid (¬ reaP x r):=fun q=>by rcases q with q | q <;> omega
   have HIB:Hid (∀ W:World,Calls Tryz.prog 60 #[.int .i64 r,.int .i64 1,.int .i64 6] W fun e w2=>e=.returned (.bool false)∧Below W.heap.size W w2):=fun W=>(inBounds_any r 1 6 W).mono (fun e w2 q=>⟨by rw [q.1,decide_eq_false hr],by rw [← q.2]; exact Below.refl _ _⟩)
   clear hr h7 p5
   have HBB:w0.heap.size≤w0.heap.size:=Nat.le_refl _
   go_upto_region 3 with fail
   refine wp_region_rk (rs3f a1 n1 c1 a2 n2 c2 a3 n3 c3 x r w.heap.size (w0.heap.size)) [4,10,11,12,13,14,15,16,17,18,19] (w0.heap.size) (fun a0=>a0.tmps.size=20∧aT a0 1=.int .i64 r) (by kernel_rfl) rfl (by kernel_rfl) rfl ⟨rfl,rfl⟩ (rs3f_stb a1 n1 c1 a2 n2 c2 a3 n3 c3 x r w.heap.size (w0.heap.size)) ?_ ?_ ?_
   ·intro k hk hk2
    match k,hk,hk2 with
    | 11,_,_=>exact HH0.out
    | 0,hk,_=>exact absurd hk (by show ¬ (11≤0); omega)
    | 1,hk,_=>exact absurd hk (by show ¬ (11≤1); omega)
    | 2,hk,_=>exact absurd hk (by show ¬ (11≤2); omega)
    | 3,hk,_=>exact absurd hk (by show ¬ (11≤3); omega)
    | 4,hk,_=>exact absurd hk (by show ¬ (11≤4); omega)
    | 5,hk,_=>exact absurd hk (by show ¬ (11≤5); omega)
    | 6,hk,_=>exact absurd hk (by show ¬ (11≤6); omega)
    | 7,hk,_=>exact absurd hk (by show ¬ (11≤7); omega)
    | 8,hk,_=>exact absurd hk (by show ¬ (11≤8); omega)
    | 9,hk,_=>exact absurd hk (by show ¬ (11≤9); omega)
    | 10,hk,_=>exact absurd hk (by show ¬ (11≤10); omega)
    | k+12,_,hk2=>exact absurd hk2 (by show ¬ (k+12<12); omega)
   ·rintro a0 ⟨hz,g1⟩
    refine StepsRK.cons ?_ (StepsRK.cons ?_ (StepsRK.cons ?_ (StepsRK.cons ?_ (StepsRK.cons ?_ (StepsRK.cons ?_ (StepsRK.cons ?_ (StepsRK.cons ?_ (StepsRK.cons ?_ (StepsRK.cons ?_ (StepsRK.cons ?_ (StepsRK.nil)))))))))))
    ·intro lQ b W hI hUN hED KQ hKQ
     refine rk_plain rfl ?_
     exact opw_move 1 rfl (hKQ.out _ _ (hI.put 0 10 rfl rfl (by rw [hz]; decide) rfl hUN rfl HBB (rs3f_stb a1 n1 c1 a2 n2 c2 a3 n3 c3 x r w.heap.size (w0.heap.size)) (Below.refl _ _) ((hI.fr.same 1 (by decide)).trans g1)))
    ·intro lQ b W hI hUN hED KQ hKQ
     refine rk_plain rfl ?_
     have f0:=hI.got 0 (od rfl) (edge hED 0 (by kernel_rfl)) rfl
     replace f0:aT b 10=.int .i64 r:=f0
     refine opw_call 60 #[.tmp 10,.const (.int .i64 1),.const (.int .i64 6)] _ _ _ rfl Tryz.func60 (by kernel_rfl) rfl #[.int .i64 r,.int .i64 1,.int .i64 6] (by simp [ev,evc,f0]) ?_
     refine (HIB.out W).mono ?_
     rintro e W2 ⟨rfl,hb⟩
     exact ⟨_,rfl,hKQ.out _ _ (hI.put 1 11 rfl rfl (by rw [hz]; decide) rfl hUN rfl HBB (rs3f_stb a1 n1 c1 a2 n2 c2 a3 n3 c3 x r w.heap.size (w0.heap.size)) hb rfl)⟩
    ·intro lQ b W hI hUN hED KQ hKQ
     refine rk_plain rfl ?_
     have f:=hI.got 1 (od rfl) (edge hED 1 (by kernel_rfl)) rfl
     exact opw_move 11 rfl (hKQ.out _ _ (hI.put 2 12 rfl rfl (by rw [hz]; decide) rfl hUN rfl HBB (rs3f_stb a1 n1 c1 a2 n2 c2 a3 n3 c3 x r w.heap.size (w0.heap.size)) (Below.refl _ _) f))
    ·intro lQ b W hI hUN hED KQ hKQ
     exact rk_skip 2 true 12 (.bool false) rfl rfl (hI.got 2 (od rfl) (edge hED 2 (by kernel_rfl)) rfl) rfl (hKQ.out _ _ (hI.put 3 13 rfl rfl (by rw [hz]; decide) rfl hUN rfl HBB (rs3f_stb a1 n1 c1 a2 n2 c2 a3 n3 c3 x r w.heap.size (w0.heap.size)) (Below.refl _ _) rfl))
    ·intro lQ b W hI hUN hED KQ hKQ
     exact rk_skip 2 true 12 (.bool false) rfl rfl (hI.got 2 (od rfl) (edge hED 2 (by kernel_rfl)) rfl) rfl (hKQ.out _ _ (hI.put 4 14 rfl rfl (by rw [hz]; decide) rfl hUN rfl HBB (rs3f_stb a1 n1 c1 a2 n2 c2 a3 n3 c3 x r w.heap.size (w0.heap.size)) (Below.refl _ _) rfl))
    ·intro lQ b W hI hUN hED KQ hKQ
     exact rk_skip 2 true 12 (.bool false) rfl rfl (hI.got 2 (od rfl) (edge hED 2 (by kernel_rfl)) rfl) rfl (hKQ.out _ _ (hI.put 5 15 rfl rfl (by rw [hz]; decide) rfl hUN rfl HBB (rs3f_stb a1 n1 c1 a2 n2 c2 a3 n3 c3 x r w.heap.size (w0.heap.size)) (Below.refl _ _) rfl))
    ·intro lQ b W hI hUN hED KQ hKQ
     exact rk_skip 2 true 12 (.bool false) rfl rfl (hI.got 2 (od rfl) (edge hED 2 (by kernel_rfl)) rfl) rfl (hKQ.out _ _ (hI.put 6 16 rfl rfl (by rw [hz]; decide) rfl hUN rfl HBB (rs3f_stb a1 n1 c1 a2 n2 c2 a3 n3 c3 x r w.heap.size (w0.heap.size)) (Below.refl _ _) rfl))
    ·intro lQ b W hI hUN hED KQ hKQ
     exact rk_skip 2 true 12 (.bool false) rfl rfl (hI.got 2 (od rfl) (edge hED 2 (by kernel_rfl)) rfl) rfl (hKQ.out _ _ (hI.put 7 17 rfl rfl (by rw [hz]; decide) rfl hUN rfl HBB (rs3f_stb a1 n1 c1 a2 n2 c2 a3 n3 c3 x r w.heap.size (w0.heap.size)) (Below.refl _ _) rfl))
    ·intro lQ b W hI hUN hED KQ hKQ
     exact rk_skip 2 true 12 (.bool false) rfl rfl (hI.got 2 (od rfl) (edge hED 2 (by kernel_rfl)) rfl) rfl (hKQ.out _ _ (hI.put 8 18 rfl rfl (by rw [hz]; decide) rfl hUN rfl HBB (rs3f_stb a1 n1 c1 a2 n2 c2 a3 n3 c3 x r w.heap.size (w0.heap.size)) (Below.refl _ _) rfl))
    ·intro lQ b W hI hUN hED KQ hKQ
     refine rk_plain rfl ?_
     have fc:aT b 12=.bool false:=hI.got 2 (od rfl) (edge hED 2 (by kernel_rfl)) rfl
     exact opw_pick_f 12 _ _ rfl fc _ rfl (hKQ.out _ _ (hI.put 9 19 rfl rfl (by rw [hz]; decide) rfl hUN rfl HBB (rs3f_stb a1 n1 c1 a2 n2 c2 a3 n3 c3 x r w.heap.size (w0.heap.size)) (Below.refl _ _) rfl))
    ·intro lQ b W hI hUN hED KQ hKQ
     refine rk_plain rfl ?_
     have f:=hI.got 9 (od rfl) (edge hED 9 (by kernel_rfl)) rfl
     exact opw_assign 19 rfl (hKQ.out _ _ (hI.put 10 4 rfl rfl (by rw [hz]; decide) rfl hUN rfl HBB (rs3f_stb a1 n1 c1 a2 n2 c2 a3 n3 c3 x r w.heap.size (w0.heap.size)) (Below.refl _ _) f))
   ·intro b W hf hb F
    have e4:aT b 4=.bool false:=F 10 (od rfl) rfl
    rw [hf.eq]
    simp only [puts,Act.put,List.setIfInBounds_toArray,List.set_cons_zero,List.set_cons_succ,e4]
    clear hf F e4
    go_wp2
    go_ret
    exact says_f HN.out (hB0.trans (hb.mono hB0.size))
open Go.RowKit
theorem entryOk_any (a1:Option Addr)(n1 c1:Nat)(a2:Option Addr)(n2 c2:Nat)(a3:Option Addr)(n3 c3:Nat)(x:CP)(an:Option Addr)(nn cn:Nat)(y:GP)(w:World)(h:Pts w an nn y.parts)(hz:∀ k,k<nn→(y.parts.getD k default).val.size≤1048576)(hb : -1≤x.base)(hs0:2≤x.scope)(hs1:x.scope≤126)(ht:timeP x.tm) :
  Calls Tryz.prog 103 #[crv a1 n1 c1 a2 n2 c2 a3 n3 c3 x,gov an nn cn y] w (Says (entP x y) w):=by
 have HRO:Hid (∀ W,Calls Tryz.prog 124 #[crv a1 n1 c1 a2 n2 c2 a3 n3 c3 x,.int .i64 y.rs] W (Says (reaP x y.rs) W)):=fun W=>reasonOk_any a1 n1 c1 a2 n2 c2 a3 n3 c3 x y.rs W hb hs0 hs1
 have HNI:Hid (∀ W,Below w.heap.size w W→Calls Tryz.prog 125 #[crv a1 n1 c1 a2 n2 c2 a3 n3 c3 x,gov an nn cn y] W (Says ((x.ind=true→calledP y.parts)∧(x.ind=false→y.parts = [])) W)):=fun W hW=>namesIssuer_any a1 n1 c1 a2 n2 c2 a3 n3 c3 x an nn cn y W (h.kept hW) hz
 have HT:Hid (timeP x.tm):=ht
 clear h hz hb hs0 hs1 ht
 unfold crv gov at HNI ⊢
 unfold crv at HRO
 obtain ⟨W0,hW0⟩:∃ W0,W0=(w.alloc (.cells #[.slice a1 n1 c1,.int .i64 x.num,.int .i64 x.base,.int .i64 x.tm,.int .i64 x.next,.int .i64 x.scope,.bool x.ind,.slice a2 n2 c2,.slice a3 n3 c3] 38)).alloc (.cells #[.slice an nn cn,.int .i64 y.ser,.int .i64 y.tm,.int .i64 y.rs] 74):=⟨_,rfl⟩
 have hB0:Below w.heap.size w W0:=by rw [hW0]; exact two_below _ _ _
 have b0:=two_blocks w (.cells #[.slice a1 n1 c1,.int .i64 x.num,.int .i64 x.base,.int .i64 x.tm,.int .i64 x.next,.int .i64 x.scope,.bool x.ind,.slice a2 n2 c2,.slice a3 n3 c3] 38) (.cells #[.slice an nn cn,.int .i64 y.ser,.int .i64 y.tm,.int .i64 y.rs] 74)
 rw [← hW0] at b0
 have HY:Hid (W0.heap[w.heap.size]? = some (.cells #[.slice a1 n1 c1,.int .i64 x.num,.int .i64 x.base,.int .i64 x.tm,.int .i64 x.next,.int .i64 x.scope,.bool x.ind,.slice a2 n2 c2,.slice a3 n3 c3] 38)∧W0.heap[w.heap.size+1]? = some (.cells #[.slice an nn cn,.int .i64 y.ser,.int .i64 y.tm,.int .i64 y.rs] 74)):=b0
 have p0:W0.cell? ⟨w.heap.size,0,none⟩=some (.slice a1 n1 c1):=qk HY.out.1 rfl
 have p1:W0.cell? ⟨w.heap.size,1,none⟩=some (.int .i64 x.num):=qk HY.out.1 rfl
 have p2:W0.cell? ⟨w.heap.size,2,none⟩=some (.int .i64 x.base):=qk HY.out.1 rfl
 have p3:W0.cell? ⟨w.heap.size,3,none⟩=some (.int .i64 x.tm):=qk HY.out.1 rfl
 have p4:W0.cell? ⟨w.heap.size,4,none⟩=some (.int .i64 x.next):=qk HY.out.1 rfl
 have p5:W0.cell? ⟨w.heap.size,5,none⟩=some (.int .i64 x.scope):=qk HY.out.1 rfl
 have p6:W0.cell? ⟨w.heap.size,6,none⟩=some (.bool x.ind):=qk HY.out.1 rfl
 have p7:W0.cell? ⟨w.heap.size,7,none⟩=some (.slice a2 n2 c2):=qk HY.out.1 rfl
 have p8:W0.cell? ⟨w.heap.size,8,none⟩=some (.slice a3 n3 c3):=qk HY.out.1 rfl
 have e0:W0.cell? ⟨w.heap.size+1,0,none⟩=some (.slice an nn cn):=qk HY.out.2 rfl
 have e1:W0.cell? ⟨w.heap.size+1,1,none⟩=some (.int .i64 y.ser):=qk HY.out.2 rfl
 have e2:W0.cell? ⟨w.heap.size+1,2,none⟩=some (.int .i64 y.tm):=qk HY.out.2 rfl
 have e3:W0.cell? ⟨w.heap.size+1,3,none⟩=some (.int .i64 y.rs):=qk HY.out.2 rfl
 have HW:Hid (_=_):=hW0
 clear hW0 b0
 go_enter Tryz.func103,Tryz.ntmps103
 go_upto_region 1 with fail
 rw [← HW.out]
 clear HW
 go_wp2_with fail
 by_cases q1:1≤y.ser∧y.ser≤4611686018427387904
 case neg =>
  refine (inBounds_any y.ser 1 4611686018427387904 _).mono ?_
  rintro e w9 ⟨rfl,hw9⟩
  subst hw9
  rw [decide_eq_false q1]
  have HN:Hid (¬ entP x y):=fun q=>q1 q.1
  clear q1
  go_wp2
  go_ret
  exact says_f HN.out hB0
 refine (inBounds_any y.ser 1 4611686018427387904 _).mono ?_
 rintro e w9 ⟨rfl,hw9⟩
 subst hw9
 rw [decide_eq_true q1]
 have Hq1:Hid (1≤y.ser∧y.ser≤4611686018427387904):=q1
 clear q1
 go_wp2_with fail
 by_cases q2:0≤y.tm∧y.tm≤x.tm
 case neg =>
  refine (inBounds_any y.tm 0 x.tm _).mono ?_
  rintro e w9 ⟨rfl,hw9⟩
  subst hw9
  rw [decide_eq_false q2]
  have HN:Hid (¬ entP x y):=fun q=>q2 ⟨q.2.1.1,q.2.2.1⟩
  clear q2
  go_wp2
  go_ret
  exact says_f HN.out hB0
 refine (inBounds_any y.tm 0 x.tm _).mono ?_
 rintro e w9 ⟨rfl,hw9⟩
 subst hw9
 rw [decide_eq_true q2]
 have Hq2:Hid (0≤y.tm∧y.tm≤x.tm):=q2
 clear q2
 go_wp2_with fail
 refine (HRO.out _).mono ?_
 rintro e w1 ⟨v1,rfl,hv1,hb1⟩
 have hB1:Below w.heap.size w w1:=hB0.trans (hb1.mono hB0.size)
 have y1:w1.heap[w.heap.size]? = some (.cells #[.slice a1 n1 c1,.int .i64 x.num,.int .i64 x.base,.int .i64 x.tm,.int .i64 x.next,.int .i64 x.scope,.bool x.ind,.slice a2 n2 c2,.slice a3 n3 c3] 38):=(hb1.block _ (Array.getElem?_eq_some_iff.1 HY.out.1).1).trans HY.out.1
 have y2:w1.heap[w.heap.size+1]? = some (.cells #[.slice an nn cn,.int .i64 y.ser,.int .i64 y.tm,.int .i64 y.rs] 74):=(hb1.block _ (Array.getElem?_eq_some_iff.1 HY.out.2).1).trans HY.out.2
 clear p0 p1 p2 p3 p4 p5 p6 p7 p8 e0 e1 e2 e3
 have p0:w1.cell? ⟨w.heap.size,0,none⟩=some (.slice a1 n1 c1):=qk y1 rfl
 have p1:w1.cell? ⟨w.heap.size,1,none⟩=some (.int .i64 x.num):=qk y1 rfl
 have p2:w1.cell? ⟨w.heap.size,2,none⟩=some (.int .i64 x.base):=qk y1 rfl
 have p3:w1.cell? ⟨w.heap.size,3,none⟩=some (.int .i64 x.tm):=qk y1 rfl
 have p4:w1.cell? ⟨w.heap.size,4,none⟩=some (.int .i64 x.next):=qk y1 rfl
 have p5:w1.cell? ⟨w.heap.size,5,none⟩=some (.int .i64 x.scope):=qk y1 rfl
 have p6:w1.cell? ⟨w.heap.size,6,none⟩=some (.bool x.ind):=qk y1 rfl
 have p7:w1.cell? ⟨w.heap.size,7,none⟩=some (.slice a2 n2 c2):=qk y1 rfl
 have p8:w1.cell? ⟨w.heap.size,8,none⟩=some (.slice a3 n3 c3):=qk y1 rfl
 have e0:w1.cell? ⟨w.heap.size+1,0,none⟩=some (.slice an nn cn):=qk y2 rfl
 have e1:w1.cell? ⟨w.heap.size+1,1,none⟩=some (.int .i64 y.ser):=qk y2 rfl
 have e2:w1.cell? ⟨w.heap.size+1,2,none⟩=some (.int .i64 y.tm):=qk y2 rfl
 have e3:w1.cell? ⟨w.heap.size+1,3,none⟩=some (.int .i64 y.rs):=qk y2 rfl
 have HV1:Hid _:=hv1
 clear hv1 hb1 y1 y2
 rcases v1 with _ | _
 ·have HN:Hid (¬ entP x y):=fun q=>by have:=HV1.out.2 q.2.2.2.2.2; simp at this
  go_wp2
  go_ret
  exact says_f HN.out hB1
 go_wp2_with fail
 refine (HNI.out _ hB1).mono ?_
 rintro e w2 ⟨v2,rfl,hv2,hb2⟩
 have HV2:Hid _:=hv2
 have hB2:Below w.heap.size w w2:=hB1.trans (hb2.mono hB1.size)
 clear p0 p1 p2 p3 p4 p5 p6 p7 p8 e0 e1 e2 e3 hv2 hb2
 go_wp2
 go_ret
 exact ⟨v2,rfl,⟨fun q=>⟨Hq1.out,⟨Hq2.out.1,Int.le_trans Hq2.out.2 HT.out.2⟩,Hq2.out.2,(HV2.out.1 q).1,(HV2.out.1 q).2,HV1.out.1 (by simp)⟩,fun q=>HV2.out.2 ⟨q.2.2.2.1,q.2.2.2.2.1⟩⟩,hB2⟩
open Go.RowKit
theorem everyGone_any (rv:Value)(p:GP→Prop)(a:Option Addr)(n c:Nat)(xs:List GP)(w:World)(h:Gns w a n xs)(hz:∀ k,k<n→GpOk (xs.getD k default))
  (hc:∀ (W:World) (an:Option Addr) (nn cn:Nat) (y:GP),Pts W an nn y.parts→(∀ k,k<nn→(y.parts.getD k default).val.size≤1048576)→Calls Tryz.prog 103 #[rv,gov an nn cn y] W (Says (p y) W)) :
  Calls Tryz.prog 102 #[.slice a n c,.func (Fn.func 103) #[rv] #[]] w (Says (∀ k,k<n→p (xs.getD k default)) w):=by
 have HK:Hid (Gns w a n xs):=h
 have HZ:Hid (∀ k,k<n→GpOk (xs.getD k default)):=hz
 have HC:Hid (_):=hc
 have hn:=h.max
 clear h hz hc
 unfold gov at HC
 go_enter Tryz.func102,Tryz.ntmps102
 go_wp2
 go_loopw [9] (fun i wr=>∃ k:Nat,k≤n∧i=.int .i64 k∧Hid (∀ j,j<k→p (xs.getD j default))∧Below w.heap.size w wr) (fun i _=>n - (intOf i).toNat)
 case atStart=>exact ⟨0,Nat.zero_le _,rfl,fun k hk=>absurd hk (Nat.not_lt_zero _),Below.refl _ _⟩
 case round =>
  obtain ⟨k,hk,rfl,HE,hbr⟩:=hrel
  have hws:=hbr.size
  by_cases hlt:k<n
  ·obtain ⟨b,off,an,nn,cn,rfl,hlb,hcc,hp⟩:=HK.out.get k hlt
   have HGZ:Hid (GpOk (xs.getD k default)):=HZ.out k hlt
   obtain ⟨y,hy⟩:∃ y,y=xs.getD k default:=⟨_,rfl⟩
   rw [← hy] at hcc hp HGZ
   have HY:Hid (y=xs.getD k default):=hy
   have HNN:Hid (y.parts.length=nn):=hp.len
   obtain ⟨c0,c1,c2,c3⟩:=hcc.of (w':=wr) (fun i=>hbr.cell (p:=⟨b,i,none⟩) hlb)
   have hbz:Below wr.heap.size wr (wr.alloc (.cells #[.slice an nn cn,.int .i64 y.ser,.int .i64 y.tm,.int .i64 y.rs] 74)):=(Below.refl _ _).alloc (Nat.le_refl _) _
   have HPW:Hid (Pts (wr.alloc (.cells #[.slice an nn cn,.int .i64 y.ser,.int .i64 y.tm,.int .i64 y.rs] 74)) an nn y.parts):=hp.kept (hbr.trans (hbz.mono hws))
   clear hcc hy hp
   have hkni:(k:Int)<(n:Int):=by omega
   go_wp2_with fail
   refine (HC.out _ an nn cn y HPW.out (fun j hj=>HGZ.out.2 j (by rw [HNN.out]; exact hj))).mono ?_
   rintro e w2 ⟨bb,rfl,hbi,hb2⟩
   have B2:Below w.heap.size w w2:=hbr.trans ((hbz.trans (hb2.mono hbz.size)).mono hws)
   clear c0 c1 c2 c3
   have HV:Hid _:=hbi
   clear hbi
   cases bb with
   | true =>
    have HA:Hid (∀ j,j<k+1→p (xs.getD j default)):=fun j hj=>by
     by_cases e:j<k
     ·exact HE.out j e
     ·obtain rfl:j=k:=by omega
      rw [← HY.out]; exact HV.out.1 rfl
    go_wp2
    go_roundw
    case rel=>exact ⟨k+1,by omega,by go_num,HA.out,B2⟩
    case measure=>simp [intOf]; omega
   | false =>
    have HN:Hid (¬ ∀ j,j<n→p (xs.getD j default)):=fun q=>by have:=HV.out.2 (by rw [HY.out]; exact q k hlt); cases this
    go_wp2
    go_ret
    exact says_f HN.out B2
  ·have hkn':k=n:=by omega
   subst hkn'
   have hni:¬ ((k:Int)<(k:Int)):=by omega
   go_wp2
   go_ret
   exact says_t HE.out hbr
open Go.RowKit Go.Maps
variable {P:Program} {Q:Exit→Act→World→Prop}
theorem opw_len {o:Oper}{a:Act}{w:World}{K:Act→World→Prop}(x:Nat)(t e:TypeId)(ho:o.op=.call { callee:=.builtin .len,args:=#[.tmp x],argTypes:=#[t] })(ht:P.underlying t=some (.slice e))(p:Option Addr)(n c:Nat)(hx:aT a x=.slice p n c)(h:K (a.put o.dst (.int .i64 n)) w):o.wp P a w K Q:=by
 refine opw_value _ ?_ h
 have hx':a.eval (.tmp x)=.slice p n c:=hx
 simp [execOp,ho,resolve,invoke,builtin,hx',Result.andThen]
 simp [go_sem,ht]
theorem opw_leqc {o:Oper}{a:Act}{w:World}{K:Act→World→Prop}(t t2 x:Nat)(q:Int)(ho:o.op=.binOp .leq t (.tmp x) (.const (.int .i64 q)) t2)(p:Int)(hx:aT a x=.int .i64 p)(h:K (a.put o.dst (.bool (decide (p≤q)))) w):o.wp P a w K Q:=by
 refine opw_value _ ?_ h
 have hx':a.eval (.tmp x)=.int .i64 p:=hx
 have hc:a.eval (.const (.int .i64 q))=.int .i64 q:=rfl
 unfold execOp
 simp only [ho,hx',hc]
 simp [go_sem]
theorem opw_makeFunc {o:Oper}{a:Act}{w:World}{K:Act→World→Prop}(f x:Nat)(ho:o.op=.makeFunc (Fn.func f) #[.tmp x] #[])(v:Value)(hx:aT a x=v)(h:K (a.put o.dst (.func (Fn.func f) #[v] #[])) w):o.wp P a w K Q:=by
 refine opw_value _ ?_ h
 have hx':a.eval (.tmp x)=v:=hx
 unfold execOp
 simp [ho,hx',Instr.makeFunc]
theorem opw_maplen {H:Type}{o:Oper}{a:Act}{w:World}{K:Act→World→Prop}(x:Nat)(t k e:TypeId)(ho:o.op=.call { callee:=.builtin .len,args:=#[.tmp x],argTypes:=#[t] })(ht:P.underlying t=some (.map k e))(R:Value→Option (DataW H × List MemPlace))(b n:Nat)(D:DataW H)(hx:aT a x=.map (some b))(hown:w.ownsMap P k R b n D)(h:K (a.put o.dst (.int .i64 (Maps.size D))) w):o.wp P a w K Q:=by
 have hx':a.eval (.tmp x)=.map (some b):=hx
 unfold Oper.wp
 simp [execOp,ho,resolve,invoke,builtin,hx',hown.len ht o.type,Result.andThen]
 exact h
end Go.Proofs.YtnmplldhdfingaaGreatDoor
