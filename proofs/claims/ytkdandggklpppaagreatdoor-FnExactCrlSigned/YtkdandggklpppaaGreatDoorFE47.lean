import Derived.Test.YtkdandggklpppaaGreatDoorFE39
import Derived.Test.YtkdandggklpppaaGreatDoorFE41
import Derived.Test.YtkdandggklpppaaGreatDoorFE46
set_option maxRecDepth 10000
set_option maxHeartbeats 8000000
set_option linter.unusedVariables false
namespace Go.Proofs.YtkdandggklpppaaGreatDoor
open Go.RowKit Go.Sort
def clP (x:CP)(sc yy hh:Int):Prop:=crlP x∧anyP sc yy hh (crBody x) x.sig
theorem sayJ_t {p:Prop}{v:Bool}(h:Hid (v=true↔p))(hp:p):v=true:=h.out.2 hp
theorem sayJ_f {p:Prop}{v:Bool}(h:Hid (v=true↔p))(hp:¬ p):v=false:=by
 cases v with
 | false=>rfl
 | true=>exact absurd (h.out.1 rfl) hp
def cjiF (p1:Option Addr)(q1 r1:Nat)(p2:Option Addr)(q2 r2:Nat)(p3:Option Addr)(q3 r3:Nat)(x:CP)(sc yy hh:Int)(l:List Int)(vb:Bool)(G B:Nat):RSpec where
 m:=11
 n:=13
 slots:=[5,6,7,8,9,10,11,12,13,14,4,100011,100012]
 kills:=[[],[],[],[],[],[],[],[],[],[],[],[],[]]
 pres:=[[],[],[],[],[],[],[],[],[],[],[],[],[]]
 fact:=fun k v w=>match k with
  | 0=>v=.agg #[.slice p1 q1 r1,.int .i64 x.num,.int .i64 x.base,.int .i64 x.tm,.int .i64 x.next,.int .i64 x.scope,.bool x.ind,.slice p2 q2 r2,.slice p3 q3 r3]
  | 1=>v=.bool false
  | 2=>v=.bool false
  | 3=>v=undef
  | 4=>v=undef
  | 5=>v=undef
  | 6=>v=undef
  | 7=>v=undef
  | 8=>v=undef
  | 9=>v=.bool false
  | 10=>v=.bool false
  | 11=>w.heap[G]? = some (.cells #[.slice p1 q1 r1,.int .i64 x.num,.int .i64 x.base,.int .i64 x.tm,.int .i64 x.next,.int .i64 x.scope,.bool x.ind,.slice p2 q2 r2,.slice p3 q3 r3] 39 (0,0))
  | _=>w.heap[(G+1)]? = some (.cells #[.int .i64 sc,.int .u64 yy,.int .i64 hh] 41 (0,0))
theorem cjiF_stb (p1:Option Addr)(q1 r1:Nat)(p2:Option Addr)(q2 r2:Nat)(p3:Option Addr)(q3 r3:Nat)(x:CP)(sc yy hh:Int)(l:List Int)(vb:Bool)(G B:Nat)(k:Nat)(hk:k<13):StB ((cjiF p1 q1 r1 p2 q2 r2 p3 q3 r3 x sc yy hh l vb G (B)).fact k):=by
 match k,hk with
 | 0,_=>exact fun _ _ _ h _=>h
 | 1,_=>exact fun _ _ _ h _=>h
 | 2,_=>exact fun _ _ _ h _=>h
 | 3,_=>exact fun _ _ _ h _=>h
 | 4,_=>exact fun _ _ _ h _=>h
 | 5,_=>exact fun _ _ _ h _=>h
 | 6,_=>exact fun _ _ _ h _=>h
 | 7,_=>exact fun _ _ _ h _=>h
 | 8,_=>exact fun _ _ _ h _=>h
 | 9,_=>exact fun _ _ _ h _=>h
 | 10,_=>exact fun _ _ _ h _=>h
 | 11,_=>exact fun _ _ _ q_0 hb=>below_kept q_0 hb
 | 12,_=>exact fun _ _ _ q_0 hb=>below_kept q_0 hb
 | k+13,hk=>omega
def cjiT (p1:Option Addr)(q1 r1:Nat)(p2:Option Addr)(q2 r2:Nat)(p3:Option Addr)(q3 r3:Nat)(x:CP)(sc yy hh:Int)(l:List Int)(vb:Bool)(G B:Nat):RSpec where
 m:=11
 n:=13
 slots:=[5,6,7,8,9,10,11,12,13,14,4,100011,100012]
 kills:=[[],[],[],[],[],[],[],[],[],[],[],[],[]]
 pres:=[[],[],[],[],[],[],[],[],[],[],[],[],[]]
 fact:=fun k v w=>match k with
  | 0=>v=.agg #[.slice p1 q1 r1,.int .i64 x.num,.int .i64 x.base,.int .i64 x.tm,.int .i64 x.next,.int .i64 x.scope,.bool x.ind,.slice p2 q2 r2,.slice p3 q3 r3]
  | 1=>v=.bool true
  | 2=>v=.bool true
  | 3=>v=.agg #[.int .i64 sc,.int .u64 yy,.int .i64 hh]
  | 4=>v=.agg #[.slice p1 q1 r1,.int .i64 x.num,.int .i64 x.base,.int .i64 x.tm,.int .i64 x.next,.int .i64 x.scope,.bool x.ind,.slice p2 q2 r2,.slice p3 q3 r3]
  | 5=>∃ a4 c4,v=.slice a4 l.length c4∧Own B w a4 l.length c4 l
  | 6=>v=.pointer (some ⟨G,8,none⟩)
  | 7=>v=.slice p3 q3 r3
  | 8=>v=.bool vb
  | 9=>v=.bool vb
  | 10=>v=.bool vb
  | 11=>w.heap[G]? = some (.cells #[.slice p1 q1 r1,.int .i64 x.num,.int .i64 x.base,.int .i64 x.tm,.int .i64 x.next,.int .i64 x.scope,.bool x.ind,.slice p2 q2 r2,.slice p3 q3 r3] 39 (0,0))
  | _=>w.heap[(G+1)]? = some (.cells #[.int .i64 sc,.int .u64 yy,.int .i64 hh] 41 (0,0))
theorem cjiT_stb (p1:Option Addr)(q1 r1:Nat)(p2:Option Addr)(q2 r2:Nat)(p3:Option Addr)(q3 r3:Nat)(x:CP)(sc yy hh:Int)(l:List Int)(vb:Bool)(G B:Nat)(k:Nat)(hk:k<13):StB ((cjiT p1 q1 r1 p2 q2 r2 p3 q3 r3 x sc yy hh l vb G (B)).fact k):=by
 match k,hk with
 | 0,_=>exact fun _ _ _ h _=>h
 | 1,_=>exact fun _ _ _ h _=>h
 | 2,_=>exact fun _ _ _ h _=>h
 | 3,_=>exact fun _ _ _ h _=>h
 | 4,_=>exact fun _ _ _ h _=>h
 | 5,_=>exact fun _ _ _ ⟨a4,c4,hv,q_0⟩ hb=>⟨a4,c4,hv,q_0.kept hb⟩
 | 6,_=>exact fun _ _ _ h _=>h
 | 7,_=>exact fun _ _ _ h _=>h
 | 8,_=>exact fun _ _ _ h _=>h
 | 9,_=>exact fun _ _ _ h _=>h
 | 10,_=>exact fun _ _ _ h _=>h
 | 11,_=>exact fun _ _ _ q_0 hb=>below_kept q_0 hb
 | 12,_=>exact fun _ _ _ q_0 hb=>below_kept q_0 hb
 | k+13,hk=>omega
theorem implCrlSigned_any (p1 : Option Addr) (q1 r1 : Nat) (p2 : Option Addr) (q2 r2 : Nat) (p3 : Option Addr) (q3 r3 : Nat) (x : CP) (sc yy hh : Int) (w : World) (htab : Lib.TabIs Tryz.prog w "internal/strconv.uint64pow10" .u64 Lib.pow10Tab) (hsc : -9223372036854775808 ≤ x.scope ∧ x.scope ≤ 9223372036854775807) (h : Crs w p1 q1 p2 q2 p3 q3 x) (hz : CpOk q1 q2 q3 x) (hy : U64 yy) (hcg : q3 ≤ r3) :
  Calls Tryz.prog 8 #[crv p1 q1 r1 p2 q2 r2 p3 q3 r3 x,kpv sc yy hh] w (Says (clP x sc yy hh) w):=by
 show Calls Tryz.prog 8 #[.agg #[.slice p1 q1 r1,.int .i64 x.num,.int .i64 x.base,.int .i64 x.tm,.int .i64 x.next,.int .i64 x.scope,.bool x.ind,.slice p2 q2 r2,.slice p3 q3 r3],.agg #[.int .i64 sc,.int .u64 yy,.int .i64 hh]] w _
 obtain ⟨w0,hw0⟩:∃ w0,w0=(w.alloc (.cells #[.slice p1 q1 r1,.int .i64 x.num,.int .i64 x.base,.int .i64 x.tm,.int .i64 x.next,.int .i64 x.scope,.bool x.ind,.slice p2 q2 r2,.slice p3 q3 r3] 39)).alloc (.cells #[.int .i64 sc,.int .u64 yy,.int .i64 hh] 41):=⟨_,rfl⟩
 have B0:Hid (Below w.heap.size w w0):=by show Below _ _ _; rw [hw0]; exact ((Below.refl _ _).alloc (Nat.le_refl _) _).alloc (by simp) _
 have hbx:=two_blocks w (.cells #[.slice p1 q1 r1,.int .i64 x.num,.int .i64 x.base,.int .i64 x.tm,.int .i64 x.next,.int .i64 x.scope,.bool x.ind,.slice p2 q2 r2,.slice p3 q3 r3] 39) (.cells #[.int .i64 sc,.int .u64 yy,.int .i64 hh] 41)
 rw [← hw0] at hbx
 have L0:Hid (w0.heap[w.heap.size]? = some (.cells #[.slice p1 q1 r1,.int .i64 x.num,.int .i64 x.base,.int .i64 x.tm,.int .i64 x.next,.int .i64 x.scope,.bool x.ind,.slice p2 q2 r2,.slice p3 q3 r3] 39 (0,0))):=hbx.1
 have P0:Hid (w0.heap[w.heap.size+1]? = some (.cells #[.int .i64 sc,.int .u64 yy,.int .i64 hh] 41 (0,0))):=hbx.2
 clear hbx
 have hok:∀ W,Below w.heap.size w0 W→Calls Tryz.prog 19 #[.agg #[.slice p1 q1 r1,.int .i64 x.num,.int .i64 x.base,.int .i64 x.tm,.int .i64 x.next,.int .i64 x.scope,.bool x.ind,.slice p2 q2 r2,.slice p3 q3 r3]] W (Says (crlP x) W):=fun W hW=>implCrlOk_any p1 q1 r1 p2 q2 r2 p3 q3 r3 x W (Lib.tabBelow_of_tabIs htab W (B0.out.trans hW)) (h.kept (B0.out.trans hW)) hz hsc
 have HBB:w.heap.size≤w0.heap.size:=B0.out.size
 by_cases hP:crlP x
 ·have HOK:Hid (∀ W,Below w.heap.size w0 W→Calls Tryz.prog 19 #[.agg #[.slice p1 q1 r1,.int .i64 x.num,.int .i64 x.base,.int .i64 x.tm,.int .i64 x.next,.int .i64 x.scope,.bool x.ind,.slice p2 q2 r2,.slice p3 q3 r3]] W fun e w'=>e=.returned (.bool true)∧Below W.heap.size W w'):=fun W hW=>(hok W hW).mono (fun e w' q=>by
   obtain ⟨v,e1,e2,e3⟩:=q
   obtain rfl:=sayJ_t e2 hP
   exact ⟨e1,e3⟩)
  have hen:=crBody_enc hP
  obtain ⟨l,hl⟩:∃ l,l=crBody x:=⟨_,rfl⟩
  rw [← hl] at hen
  have HBD:Hid (∀ W,Below w.heap.size w0 W→Calls Tryz.prog 21 #[.agg #[.slice p1 q1 r1,.int .i64 x.num,.int .i64 x.base,.int .i64 x.tm,.int .i64 x.next,.int .i64 x.scope,.bool x.ind,.slice p2 q2 r2,.slice p3 q3 r3]] W fun e w'=>∃ a' c',e=.returned (.slice a' l.length c')∧Own W.heap.size w' a' l.length c' l∧Below W.heap.size W w'):=fun W hW=>crlBody_any p1 q1 r1 p2 q2 r2 p3 q3 r3 x l W (h.kept (B0.out.trans hW)) hP hen.1
  obtain ⟨vb,hvb⟩:∃ vb,vb=decide (anyP sc yy hh l x.sig):=⟨_,rfl⟩
  have HVG:Hid (∀ W a4 c4,Below w.heap.size w0 W→Own w.heap.size W a4 l.length c4 l→Calls Tryz.prog 20 #[.agg #[.int .i64 sc,.int .u64 yy,.int .i64 hh],.slice a4 l.length c4,.slice p3 q3 r3] W fun e w'=>e=.returned (.bool vb)∧Below W.heap.size W w'):=fun W a4 c4 hW ho4=>by
   rw [hvb]
   exact implVerifyAny_any sc yy hh a4 l.length c4 l p3 q3 r3 x.sig W hy ho4.toRow (by omega) ho4.nil (h.sg.kept (B0.out.trans hW)) hz.2.2.2.2 hcg
  have HVV:Hid (vb=true↔clP x sc yy hh):=by
   show vb=true↔clP x sc yy hh
   rw [hvb,decide_eq_true_eq,hl]
   exact ⟨fun q=>⟨hP,q⟩,fun q=>q.2⟩
  clear h hz hy hcg hP hok hvb hl hen htab hsc
  go_enter Tryz.func8,Tryz.ntmps8
  go_upto_region 1 with fail
  rw [← hw0]
  clear hw0
  refine wp_region_rk (cjiT p1 q1 r1 p2 q2 r2 p3 q3 r3 x sc yy hh l vb w.heap.size (w.heap.size)) [4,5,6,7,8,9,10,11,12,13,14] (w.heap.size) (fun a0=>a0.tmps.size=15∧aT a0 2=.pointer (some ⟨w.heap.size,0,none⟩)∧aT a0 3=.pointer (some ⟨(w.heap.size+1),0,none⟩)) (by kernel_rfl) rfl (by kernel_rfl) rfl ⟨rfl,rfl,rfl⟩ (cjiT_stb p1 q1 r1 p2 q2 r2 p3 q3 r3 x sc yy hh l vb w.heap.size (w.heap.size)) ?_ ?_ ?_
  ·intro k hk hk2
   match k,hk,hk2 with
   | 11,_,_=>exact L0.out
   | 12,_,_=>exact P0.out
   | 0,hk,_=>exact absurd hk (by show ¬ (11≤0); omega)
   | 1,hk,_=>exact absurd hk (by show ¬ (11≤1); omega)
   | 2,hk,_=>exact absurd hk (by show ¬ (11≤2); omega)
   | 3,hk,_=>exact absurd hk (by show ¬ (11≤3); omega)
   | 4,hk,_=>exact absurd hk (by show ¬ (11≤4); omega)
   | 5,hk,_=>exact absurd hk (by show ¬ (11≤5); omega)
   | 6,hk,_=>exact absurd hk (by show ¬ (11≤6); omega)
   | 7,hk,_=>exact absurd hk (by show ¬ (11≤7); omega)
   | 8,hk,_=>exact absurd hk (by show ¬ (11≤8); omega)
   | 9,hk,_=>exact absurd hk (by show ¬ (11≤9); omega)
   | 10,hk,_=>exact absurd hk (by show ¬ (11≤10); omega)
   | k+13,_,hk2=>exact absurd hk2 (by show ¬ (k+13<13); omega)
  ·rintro a0 ⟨hz,g2,g3⟩
   refine StepsRK.cons ?_ (StepsRK.cons ?_ (StepsRK.cons ?_ (StepsRK.cons ?_ (StepsRK.cons ?_ (StepsRK.cons ?_ (StepsRK.cons ?_ (StepsRK.cons ?_ (StepsRK.cons ?_ (StepsRK.cons ?_ (StepsRK.cons ?_ (StepsRK.nil)))))))))))
   ·intro lQ b W hI hUN hED KQ hKQ
    refine rk_plain rfl ?_
    have hg:=(hI.vot 11 (of_decide_eq_true rfl) (of_decide_eq_true rfl) rfl)
    refine wp_load_row 39 _ rfl (w.heap.size) ((hI.fr.same 2 (by decide)).trans g2) 39 #[.slice p1 q1 r1,.int .i64 x.num,.int .i64 x.base,.int .i64 x.tm,.int .i64 x.next,.int .i64 x.scope,.bool x.ind,.slice p2 q2 r2,.slice p3 q3 r3] (0,0) _ hg Tryz.underlying39 rfl (by kernel_rfl) ?_
    exact hKQ.out _ _ (hI.put 0 5 rfl rfl (by rw [hz]; decide) rfl hUN rfl HBB (cjiT_stb p1 q1 r1 p2 q2 r2 p3 q3 r3 x sc yy hh l vb w.heap.size (w.heap.size)) (Below.refl _ _) rfl)
   ·intro lQ b W hI hUN hED KQ hKQ
    refine rk_plain rfl ?_
    have f0:aT b 5=.agg #[.slice p1 q1 r1,.int .i64 x.num,.int .i64 x.base,.int .i64 x.tm,.int .i64 x.next,.int .i64 x.scope,.bool x.ind,.slice p2 q2 r2,.slice p3 q3 r3]:=hI.got 0 (of_decide_eq_true rfl) (edge hED 0 (by kernel_rfl)) rfl
    refine opw_call 19 #[.tmp 5] _ _ _ rfl Tryz.func19 (by kernel_rfl) rfl #[.agg #[.slice p1 q1 r1,.int .i64 x.num,.int .i64 x.base,.int .i64 x.tm,.int .i64 x.next,.int .i64 x.scope,.bool x.ind,.slice p2 q2 r2,.slice p3 q3 r3]] (by simp [ev,f0]) ?_
    refine (HOK.out W hI.bel).mono ?_
    rintro r W2 ⟨rfl,hb⟩
    exact ⟨_,rfl,hKQ.out _ _ (hI.put 1 6 rfl rfl (by rw [hz]; decide) rfl hUN rfl HBB (cjiT_stb p1 q1 r1 p2 q2 r2 p3 q3 r3 x sc yy hh l vb w.heap.size (w.heap.size)) hb rfl)⟩
   ·intro lQ b W hI hUN hED KQ hKQ
    refine rk_plain rfl ?_
    have f:=hI.got 1 (of_decide_eq_true rfl) (edge hED 1 (by kernel_rfl)) rfl
    exact opw_move 6 rfl (hKQ.out _ _ (hI.put 2 7 rfl rfl (by rw [hz]; decide) rfl hUN rfl HBB (cjiT_stb p1 q1 r1 p2 q2 r2 p3 q3 r3 x sc yy hh l vb w.heap.size (w.heap.size)) (Below.refl _ _) f))
   ·intro lQ b W hI hUN hED KQ hKQ
    refine rk_take 2 true 7 rfl rfl (hI.got 2 (of_decide_eq_true rfl) (edge hED 2 (by kernel_rfl)) rfl) ?_
    have hg:=(hI.vot 12 (of_decide_eq_true rfl) (of_decide_eq_true rfl) rfl)
    refine wp_load_row 41 _ rfl ((w.heap.size+1)) ((hI.fr.same 3 (by decide)).trans g3) 41 #[.int .i64 sc,.int .u64 yy,.int .i64 hh] (0,0) _ hg Tryz.underlying41 rfl (by kernel_rfl) ?_
    exact hKQ.out _ _ (hI.put 3 8 rfl rfl (by rw [hz]; decide) rfl hUN rfl HBB (cjiT_stb p1 q1 r1 p2 q2 r2 p3 q3 r3 x sc yy hh l vb w.heap.size (w.heap.size)) (Below.refl _ _) rfl)
   ·intro lQ b W hI hUN hED KQ hKQ
    refine rk_take 2 true 7 rfl rfl (hI.got 2 (of_decide_eq_true rfl) (edge hED 2 (by kernel_rfl)) rfl) ?_
    have hg:=(hI.vot 11 (of_decide_eq_true rfl) (of_decide_eq_true rfl) rfl)
    refine wp_load_row 39 _ rfl (w.heap.size) ((hI.fr.same 2 (by decide)).trans g2) 39 #[.slice p1 q1 r1,.int .i64 x.num,.int .i64 x.base,.int .i64 x.tm,.int .i64 x.next,.int .i64 x.scope,.bool x.ind,.slice p2 q2 r2,.slice p3 q3 r3] (0,0) _ hg Tryz.underlying39 rfl (by kernel_rfl) ?_
    exact hKQ.out _ _ (hI.put 4 9 rfl rfl (by rw [hz]; decide) rfl hUN rfl HBB (cjiT_stb p1 q1 r1 p2 q2 r2 p3 q3 r3 x sc yy hh l vb w.heap.size (w.heap.size)) (Below.refl _ _) rfl)
   ·intro lQ b W hI hUN hED KQ hKQ
    refine rk_take 2 true 7 rfl rfl (hI.got 2 (of_decide_eq_true rfl) (edge hED 2 (by kernel_rfl)) rfl) ?_
    have f0:aT b 9=.agg #[.slice p1 q1 r1,.int .i64 x.num,.int .i64 x.base,.int .i64 x.tm,.int .i64 x.next,.int .i64 x.scope,.bool x.ind,.slice p2 q2 r2,.slice p3 q3 r3]:=hI.got 4 (of_decide_eq_true rfl) (edge hED 4 (by kernel_rfl)) rfl
    refine opw_call 21 #[.tmp 9] _ _ _ rfl Tryz.func21 (by kernel_rfl) rfl #[.agg #[.slice p1 q1 r1,.int .i64 x.num,.int .i64 x.base,.int .i64 x.tm,.int .i64 x.next,.int .i64 x.scope,.bool x.ind,.slice p2 q2 r2,.slice p3 q3 r3]] (by simp [ev,f0]) ?_
    refine (HBD.out W hI.bel).mono ?_
    rintro r W2 ⟨a4,c4,rfl,ho,hb⟩
    exact ⟨_,rfl,hKQ.out _ _ (hI.put 5 10 rfl rfl (by rw [hz]; decide) rfl hUN rfl HBB (cjiT_stb p1 q1 r1 p2 q2 r2 p3 q3 r3 x sc yy hh l vb w.heap.size (w.heap.size)) hb ⟨a4,c4,rfl,ho.mono (Nat.le_trans HBB hI.bel.size)⟩)⟩
   ·intro lQ b W hI hUN hED KQ hKQ
    refine rk_take 2 true 7 rfl rfl (hI.got 2 (of_decide_eq_true rfl) (edge hED 2 (by kernel_rfl)) rfl) ?_
    exact opw_field 39 2 8 rfl _ ((hI.fr.same 2 (by decide)).trans g2) _ (by kernel_rfl) (hKQ.out _ _ (hI.put 6 11 rfl rfl (by rw [hz]; decide) rfl hUN rfl HBB (cjiT_stb p1 q1 r1 p2 q2 r2 p3 q3 r3 x sc yy hh l vb w.heap.size (w.heap.size)) (Below.refl _ _) rfl))
   ·intro lQ b W hI hUN hED KQ hKQ
    refine rk_take 2 true 7 rfl rfl (hI.got 2 (of_decide_eq_true rfl) (edge hED 2 (by kernel_rfl)) rfl) ?_
    have f:=hI.got 6 (of_decide_eq_true rfl) (edge hED 6 (by kernel_rfl)) rfl
    have hg:=(hI.vot 11 (of_decide_eq_true rfl) (of_decide_eq_true rfl) rfl)
    have hc:W.cell? ⟨w.heap.size,8,none⟩=some (.slice p3 q3 r3):=(cell_of_row _ _ 8 _ _ (0,0) hg).trans rfl
    exact opw_load1 26 11 rfl _ f _ (by simp [Instr.loadAt,go_sem,hc]) (hKQ.out _ _ (hI.put 7 12 rfl rfl (by rw [hz]; decide) rfl hUN rfl HBB (cjiT_stb p1 q1 r1 p2 q2 r2 p3 q3 r3 x sc yy hh l vb w.heap.size (w.heap.size)) (Below.refl _ _) rfl))
   ·intro lQ b W hI hUN hED KQ hKQ
    refine rk_take 2 true 7 rfl rfl (hI.got 2 (of_decide_eq_true rfl) (edge hED 2 (by kernel_rfl)) rfl) ?_
    have f0:aT b 8=.agg #[.int .i64 sc,.int .u64 yy,.int .i64 hh]:=hI.got 3 (of_decide_eq_true rfl) (edge hED 3 (by kernel_rfl)) rfl
    obtain ⟨a4,c4,f1,o1⟩:=hI.got 5 (of_decide_eq_true rfl) (edge hED 5 (by kernel_rfl)) rfl
    replace f1:aT b 10=.slice a4 l.length c4:=f1
    have f2:aT b 12=.slice p3 q3 r3:=hI.got 7 (of_decide_eq_true rfl) (edge hED 7 (by kernel_rfl)) rfl
    refine opw_call 20 #[.tmp 8,.tmp 10,.tmp 12] _ _ _ rfl Tryz.func20 (by kernel_rfl) rfl #[.agg #[.int .i64 sc,.int .u64 yy,.int .i64 hh],.slice a4 l.length c4,.slice p3 q3 r3] (by simp [ev,f0,f1,f2]) ?_
    refine (HVG.out W a4 c4 hI.bel o1).mono ?_
    rintro r W2 ⟨rfl,hb⟩
    exact ⟨_,rfl,hKQ.out _ _ (hI.put 8 13 rfl rfl (by rw [hz]; decide) rfl hUN rfl HBB (cjiT_stb p1 q1 r1 p2 q2 r2 p3 q3 r3 x sc yy hh l vb w.heap.size (w.heap.size)) hb rfl)⟩
   ·intro lQ b W hI hUN hED KQ hKQ
    refine rk_plain rfl ?_
    have fc:aT b 7=.bool true:=hI.got 2 (of_decide_eq_true rfl) (edge hED 2 (by kernel_rfl)) rfl
    have f:=hI.got 8 (of_decide_eq_true rfl) (edge hED 8 (by kernel_rfl)) rfl
    replace f:aT b 13=.bool vb:=f
    exact opw_pick_t 7 _ _ rfl fc _ f (hKQ.out _ _ (hI.put 9 14 rfl rfl (by rw [hz]; decide) rfl hUN rfl HBB (cjiT_stb p1 q1 r1 p2 q2 r2 p3 q3 r3 x sc yy hh l vb w.heap.size (w.heap.size)) (Below.refl _ _) rfl))
   ·intro lQ b W hI hUN hED KQ hKQ
    refine rk_plain rfl ?_
    have f:=hI.got 9 (of_decide_eq_true rfl) (edge hED 9 (by kernel_rfl)) rfl
    exact opw_assign 14 rfl (hKQ.out _ _ (hI.put 10 4 rfl rfl (by rw [hz]; decide) rfl hUN rfl HBB (cjiT_stb p1 q1 r1 p2 q2 r2 p3 q3 r3 x sc yy hh l vb w.heap.size (w.heap.size)) (Below.refl _ _) f))
  ·intro b W hf hb F
   have e4:aT b 4=.bool vb:=F 10 (of_decide_eq_true rfl) rfl
   rw [hf.eq]
   simp only [puts,Act.put,List.setIfInBounds_toArray,List.set_cons_zero,List.set_cons_succ,e4]
   clear hf F e4
   generalize aT b=AT
   clear b
   go_wp2
   go_ret
   exact ⟨vb,rfl,HVV,B0.out.trans hb⟩
 ·have HOK:Hid (∀ W,Below w.heap.size w0 W→Calls Tryz.prog 19 #[.agg #[.slice p1 q1 r1,.int .i64 x.num,.int .i64 x.base,.int .i64 x.tm,.int .i64 x.next,.int .i64 x.scope,.bool x.ind,.slice p2 q2 r2,.slice p3 q3 r3]] W fun e w'=>e=.returned (.bool false)∧Below W.heap.size W w'):=fun W hW=>(hok W hW).mono (fun e w' q=>by
   obtain ⟨v,e1,e2,e3⟩:=q
   obtain rfl:=sayJ_f e2 hP
   exact ⟨e1,e3⟩)
  obtain ⟨l,hl⟩:∃ l:List Int,l = []:=⟨_,rfl⟩
  obtain ⟨vb,hvb⟩:∃ vb:Bool,vb=false:=⟨_,rfl⟩
  have HVV:Hid (false=true↔clP x sc yy hh):=⟨fun q=>(by cases q),fun q=>absurd q.1 hP⟩
  clear h hz hy hcg hP hok hvb hl htab hsc
  go_enter Tryz.func8,Tryz.ntmps8
  go_upto_region 1 with fail
  rw [← hw0]
  clear hw0
  refine wp_region_rk (cjiF p1 q1 r1 p2 q2 r2 p3 q3 r3 x sc yy hh l vb w.heap.size (w.heap.size)) [4,5,6,7,8,9,10,11,12,13,14] (w.heap.size) (fun a0=>a0.tmps.size=15∧aT a0 2=.pointer (some ⟨w.heap.size,0,none⟩)) (by kernel_rfl) rfl (by kernel_rfl) rfl ⟨rfl,rfl⟩ (cjiF_stb p1 q1 r1 p2 q2 r2 p3 q3 r3 x sc yy hh l vb w.heap.size (w.heap.size)) ?_ ?_ ?_
  ·intro k hk hk2
   match k,hk,hk2 with
   | 11,_,_=>exact L0.out
   | 12,_,_=>exact P0.out
   | 0,hk,_=>exact absurd hk (by show ¬ (11≤0); omega)
   | 1,hk,_=>exact absurd hk (by show ¬ (11≤1); omega)
   | 2,hk,_=>exact absurd hk (by show ¬ (11≤2); omega)
   | 3,hk,_=>exact absurd hk (by show ¬ (11≤3); omega)
   | 4,hk,_=>exact absurd hk (by show ¬ (11≤4); omega)
   | 5,hk,_=>exact absurd hk (by show ¬ (11≤5); omega)
   | 6,hk,_=>exact absurd hk (by show ¬ (11≤6); omega)
   | 7,hk,_=>exact absurd hk (by show ¬ (11≤7); omega)
   | 8,hk,_=>exact absurd hk (by show ¬ (11≤8); omega)
   | 9,hk,_=>exact absurd hk (by show ¬ (11≤9); omega)
   | 10,hk,_=>exact absurd hk (by show ¬ (11≤10); omega)
   | k+13,_,hk2=>exact absurd hk2 (by show ¬ (k+13<13); omega)
  ·rintro a0 ⟨hz,g2⟩
   refine StepsRK.cons ?_ (StepsRK.cons ?_ (StepsRK.cons ?_ (StepsRK.cons ?_ (StepsRK.cons ?_ (StepsRK.cons ?_ (StepsRK.cons ?_ (StepsRK.cons ?_ (StepsRK.cons ?_ (StepsRK.cons ?_ (StepsRK.cons ?_ (StepsRK.nil)))))))))))
   ·intro lQ b W hI hUN hED KQ hKQ
    refine rk_plain rfl ?_
    have hg:=(hI.vot 11 (of_decide_eq_true rfl) (of_decide_eq_true rfl) rfl)
    refine wp_load_row 39 _ rfl (w.heap.size) ((hI.fr.same 2 (by decide)).trans g2) 39 #[.slice p1 q1 r1,.int .i64 x.num,.int .i64 x.base,.int .i64 x.tm,.int .i64 x.next,.int .i64 x.scope,.bool x.ind,.slice p2 q2 r2,.slice p3 q3 r3] (0,0) _ hg Tryz.underlying39 rfl (by kernel_rfl) ?_
    exact hKQ.out _ _ (hI.put 0 5 rfl rfl (by rw [hz]; decide) rfl hUN rfl HBB (cjiF_stb p1 q1 r1 p2 q2 r2 p3 q3 r3 x sc yy hh l vb w.heap.size (w.heap.size)) (Below.refl _ _) rfl)
   ·intro lQ b W hI hUN hED KQ hKQ
    refine rk_plain rfl ?_
    have f0:aT b 5=.agg #[.slice p1 q1 r1,.int .i64 x.num,.int .i64 x.base,.int .i64 x.tm,.int .i64 x.next,.int .i64 x.scope,.bool x.ind,.slice p2 q2 r2,.slice p3 q3 r3]:=hI.got 0 (of_decide_eq_true rfl) (edge hED 0 (by kernel_rfl)) rfl
    refine opw_call 19 #[.tmp 5] _ _ _ rfl Tryz.func19 (by kernel_rfl) rfl #[.agg #[.slice p1 q1 r1,.int .i64 x.num,.int .i64 x.base,.int .i64 x.tm,.int .i64 x.next,.int .i64 x.scope,.bool x.ind,.slice p2 q2 r2,.slice p3 q3 r3]] (by simp [ev,f0]) ?_
    refine (HOK.out W hI.bel).mono ?_
    rintro r W2 ⟨rfl,hb⟩
    exact ⟨_,rfl,hKQ.out _ _ (hI.put 1 6 rfl rfl (by rw [hz]; decide) rfl hUN rfl HBB (cjiF_stb p1 q1 r1 p2 q2 r2 p3 q3 r3 x sc yy hh l vb w.heap.size (w.heap.size)) hb rfl)⟩
   ·intro lQ b W hI hUN hED KQ hKQ
    refine rk_plain rfl ?_
    have f:=hI.got 1 (of_decide_eq_true rfl) (edge hED 1 (by kernel_rfl)) rfl
    exact opw_move 6 rfl (hKQ.out _ _ (hI.put 2 7 rfl rfl (by rw [hz]; decide) rfl hUN rfl HBB (cjiF_stb p1 q1 r1 p2 q2 r2 p3 q3 r3 x sc yy hh l vb w.heap.size (w.heap.size)) (Below.refl _ _) f))
   ·intro lQ b W hI hUN hED KQ hKQ
    exact rk_skip 2 true 7 (.bool false) rfl rfl (hI.got 2 (of_decide_eq_true rfl) (edge hED 2 (by kernel_rfl)) rfl) rfl (hKQ.out _ _ (hI.put 3 8 rfl rfl (by rw [hz]; decide) rfl hUN rfl HBB (cjiF_stb p1 q1 r1 p2 q2 r2 p3 q3 r3 x sc yy hh l vb w.heap.size (w.heap.size)) (Below.refl _ _) rfl))
   ·intro lQ b W hI hUN hED KQ hKQ
    exact rk_skip 2 true 7 (.bool false) rfl rfl (hI.got 2 (of_decide_eq_true rfl) (edge hED 2 (by kernel_rfl)) rfl) rfl (hKQ.out _ _ (hI.put 4 9 rfl rfl (by rw [hz]; decide) rfl hUN rfl HBB (cjiF_stb p1 q1 r1 p2 q2 r2 p3 q3 r3 x sc yy hh l vb w.heap.size (w.heap.size)) (Below.refl _ _) rfl))
   ·intro lQ b W hI hUN hED KQ hKQ
    exact rk_skip 2 true 7 (.bool false) rfl rfl (hI.got 2 (of_decide_eq_true rfl) (edge hED 2 (by kernel_rfl)) rfl) rfl (hKQ.out _ _ (hI.put 5 10 rfl rfl (by rw [hz]; decide) rfl hUN rfl HBB (cjiF_stb p1 q1 r1 p2 q2 r2 p3 q3 r3 x sc yy hh l vb w.heap.size (w.heap.size)) (Below.refl _ _) rfl))
   ·intro lQ b W hI hUN hED KQ hKQ
    exact rk_skip 2 true 7 (.bool false) rfl rfl (hI.got 2 (of_decide_eq_true rfl) (edge hED 2 (by kernel_rfl)) rfl) rfl (hKQ.out _ _ (hI.put 6 11 rfl rfl (by rw [hz]; decide) rfl hUN rfl HBB (cjiF_stb p1 q1 r1 p2 q2 r2 p3 q3 r3 x sc yy hh l vb w.heap.size (w.heap.size)) (Below.refl _ _) rfl))
   ·intro lQ b W hI hUN hED KQ hKQ
    exact rk_skip 2 true 7 (.bool false) rfl rfl (hI.got 2 (of_decide_eq_true rfl) (edge hED 2 (by kernel_rfl)) rfl) rfl (hKQ.out _ _ (hI.put 7 12 rfl rfl (by rw [hz]; decide) rfl hUN rfl HBB (cjiF_stb p1 q1 r1 p2 q2 r2 p3 q3 r3 x sc yy hh l vb w.heap.size (w.heap.size)) (Below.refl _ _) rfl))
   ·intro lQ b W hI hUN hED KQ hKQ
    exact rk_skip 2 true 7 (.bool false) rfl rfl (hI.got 2 (of_decide_eq_true rfl) (edge hED 2 (by kernel_rfl)) rfl) rfl (hKQ.out _ _ (hI.put 8 13 rfl rfl (by rw [hz]; decide) rfl hUN rfl HBB (cjiF_stb p1 q1 r1 p2 q2 r2 p3 q3 r3 x sc yy hh l vb w.heap.size (w.heap.size)) (Below.refl _ _) rfl))
   ·intro lQ b W hI hUN hED KQ hKQ
    refine rk_plain rfl ?_
    have fc:aT b 7=.bool false:=hI.got 2 (of_decide_eq_true rfl) (edge hED 2 (by kernel_rfl)) rfl
    exact opw_pick_f 7 _ _ rfl fc _ rfl (hKQ.out _ _ (hI.put 9 14 rfl rfl (by rw [hz]; decide) rfl hUN rfl HBB (cjiF_stb p1 q1 r1 p2 q2 r2 p3 q3 r3 x sc yy hh l vb w.heap.size (w.heap.size)) (Below.refl _ _) rfl))
   ·intro lQ b W hI hUN hED KQ hKQ
    refine rk_plain rfl ?_
    have f:=hI.got 9 (of_decide_eq_true rfl) (edge hED 9 (by kernel_rfl)) rfl
    exact opw_assign 14 rfl (hKQ.out _ _ (hI.put 10 4 rfl rfl (by rw [hz]; decide) rfl hUN rfl HBB (cjiF_stb p1 q1 r1 p2 q2 r2 p3 q3 r3 x sc yy hh l vb w.heap.size (w.heap.size)) (Below.refl _ _) f))
  ·intro b W hf hb F
   have e4:aT b 4=.bool false:=F 10 (of_decide_eq_true rfl) rfl
   rw [hf.eq]
   simp only [puts,Act.put,List.setIfInBounds_toArray,List.set_cons_zero,List.set_cons_succ,e4]
   clear hf F e4
   generalize aT b=AT
   clear b
   go_wp2
   go_ret
   exact ⟨false,rfl,HVV,B0.out.trans hb⟩
def cjsF (p1:Option Addr)(q1 r1:Nat)(p2:Option Addr)(q2 r2:Nat)(p3:Option Addr)(q3 r3:Nat)(x:CP)(sc yy hh:Int)(l:List Int)(vb:Bool)(G B:Nat):RSpec where
 m:=11
 n:=13
 slots:=[5,6,7,8,9,10,11,12,13,14,4,100011,100012]
 kills:=[[],[],[],[],[],[],[],[],[],[],[],[],[]]
 pres:=[[],[],[],[],[],[],[],[],[],[],[],[],[]]
 fact:=fun k v w=>match k with
  | 0=>v=.agg #[.slice p1 q1 r1,.int .i64 x.num,.int .i64 x.base,.int .i64 x.tm,.int .i64 x.next,.int .i64 x.scope,.bool x.ind,.slice p2 q2 r2,.slice p3 q3 r3]
  | 1=>v=.bool false
  | 2=>v=.bool false
  | 3=>v=undef
  | 4=>v=undef
  | 5=>v=undef
  | 6=>v=undef
  | 7=>v=undef
  | 8=>v=undef
  | 9=>v=.bool false
  | 10=>v=.bool false
  | 11=>w.heap[G]? = some (.cells #[.slice p1 q1 r1,.int .i64 x.num,.int .i64 x.base,.int .i64 x.tm,.int .i64 x.next,.int .i64 x.scope,.bool x.ind,.slice p2 q2 r2,.slice p3 q3 r3] 39 (0,0))
  | _=>w.heap[(G+1)]? = some (.cells #[.int .i64 sc,.int .u64 yy,.int .i64 hh] 41 (0,0))
theorem cjsF_stb (p1:Option Addr)(q1 r1:Nat)(p2:Option Addr)(q2 r2:Nat)(p3:Option Addr)(q3 r3:Nat)(x:CP)(sc yy hh:Int)(l:List Int)(vb:Bool)(G B:Nat)(k:Nat)(hk:k<13):StB ((cjsF p1 q1 r1 p2 q2 r2 p3 q3 r3 x sc yy hh l vb G (B)).fact k):=by
 match k,hk with
 | 0,_=>exact fun _ _ _ h _=>h
 | 1,_=>exact fun _ _ _ h _=>h
 | 2,_=>exact fun _ _ _ h _=>h
 | 3,_=>exact fun _ _ _ h _=>h
 | 4,_=>exact fun _ _ _ h _=>h
 | 5,_=>exact fun _ _ _ h _=>h
 | 6,_=>exact fun _ _ _ h _=>h
 | 7,_=>exact fun _ _ _ h _=>h
 | 8,_=>exact fun _ _ _ h _=>h
 | 9,_=>exact fun _ _ _ h _=>h
 | 10,_=>exact fun _ _ _ h _=>h
 | 11,_=>exact fun _ _ _ q_0 hb=>below_kept q_0 hb
 | 12,_=>exact fun _ _ _ q_0 hb=>below_kept q_0 hb
 | k+13,hk=>omega
def cjsT (p1:Option Addr)(q1 r1:Nat)(p2:Option Addr)(q2 r2:Nat)(p3:Option Addr)(q3 r3:Nat)(x:CP)(sc yy hh:Int)(l:List Int)(vb:Bool)(G B:Nat):RSpec where
 m:=11
 n:=13
 slots:=[5,6,7,8,9,10,11,12,13,14,4,100011,100012]
 kills:=[[],[],[],[],[],[],[],[],[],[],[],[],[]]
 pres:=[[],[],[],[],[],[],[],[],[],[],[],[],[]]
 fact:=fun k v w=>match k with
  | 0=>v=.agg #[.slice p1 q1 r1,.int .i64 x.num,.int .i64 x.base,.int .i64 x.tm,.int .i64 x.next,.int .i64 x.scope,.bool x.ind,.slice p2 q2 r2,.slice p3 q3 r3]
  | 1=>v=.bool true
  | 2=>v=.bool true
  | 3=>v=.agg #[.int .i64 sc,.int .u64 yy,.int .i64 hh]
  | 4=>v=.agg #[.slice p1 q1 r1,.int .i64 x.num,.int .i64 x.base,.int .i64 x.tm,.int .i64 x.next,.int .i64 x.scope,.bool x.ind,.slice p2 q2 r2,.slice p3 q3 r3]
  | 5=>∃ a4 c4,v=.slice a4 l.length c4∧Own B w a4 l.length c4 l
  | 6=>v=.pointer (some ⟨G,8,none⟩)
  | 7=>v=.slice p3 q3 r3
  | 8=>v=.bool vb
  | 9=>v=.bool vb
  | 10=>v=.bool vb
  | 11=>w.heap[G]? = some (.cells #[.slice p1 q1 r1,.int .i64 x.num,.int .i64 x.base,.int .i64 x.tm,.int .i64 x.next,.int .i64 x.scope,.bool x.ind,.slice p2 q2 r2,.slice p3 q3 r3] 39 (0,0))
  | _=>w.heap[(G+1)]? = some (.cells #[.int .i64 sc,.int .u64 yy,.int .i64 hh] 41 (0,0))
theorem cjsT_stb (p1:Option Addr)(q1 r1:Nat)(p2:Option Addr)(q2 r2:Nat)(p3:Option Addr)(q3 r3:Nat)(x:CP)(sc yy hh:Int)(l:List Int)(vb:Bool)(G B:Nat)(k:Nat)(hk:k<13):StB ((cjsT p1 q1 r1 p2 q2 r2 p3 q3 r3 x sc yy hh l vb G (B)).fact k):=by
 match k,hk with
 | 0,_=>exact fun _ _ _ h _=>h
 | 1,_=>exact fun _ _ _ h _=>h
 | 2,_=>exact fun _ _ _ h _=>h
 | 3,_=>exact fun _ _ _ h _=>h
 | 4,_=>exact fun _ _ _ h _=>h
 | 5,_=>exact fun _ _ _ ⟨a4,c4,hv,q_0⟩ hb=>⟨a4,c4,hv,q_0.kept hb⟩
 | 6,_=>exact fun _ _ _ h _=>h
 | 7,_=>exact fun _ _ _ h _=>h
 | 8,_=>exact fun _ _ _ h _=>h
 | 9,_=>exact fun _ _ _ h _=>h
 | 10,_=>exact fun _ _ _ h _=>h
 | 11,_=>exact fun _ _ _ q_0 hb=>below_kept q_0 hb
 | 12,_=>exact fun _ _ _ q_0 hb=>below_kept q_0 hb
 | k+13,hk=>omega
theorem specCrlSigned_any (p1:Option Addr)(q1 r1:Nat)(p2:Option Addr)(q2 r2:Nat)(p3:Option Addr)(q3 r3:Nat)(x:CP)(sc yy hh:Int)(w:World)(h:Crs w p1 q1 p2 q2 p3 q3 x)(hz:CpOk q1 q2 q3 x)(hy:U64 yy)(hcg:q3≤r3) :
  Calls Tryz.prog 5 #[crv p1 q1 r1 p2 q2 r2 p3 q3 r3 x,kpv sc yy hh] w (Says (clP x sc yy hh) w):=by
 show Calls Tryz.prog 5 #[.agg #[.slice p1 q1 r1,.int .i64 x.num,.int .i64 x.base,.int .i64 x.tm,.int .i64 x.next,.int .i64 x.scope,.bool x.ind,.slice p2 q2 r2,.slice p3 q3 r3],.agg #[.int .i64 sc,.int .u64 yy,.int .i64 hh]] w _
 obtain ⟨w0,hw0⟩:∃ w0,w0=(w.alloc (.cells #[.slice p1 q1 r1,.int .i64 x.num,.int .i64 x.base,.int .i64 x.tm,.int .i64 x.next,.int .i64 x.scope,.bool x.ind,.slice p2 q2 r2,.slice p3 q3 r3] 39)).alloc (.cells #[.int .i64 sc,.int .u64 yy,.int .i64 hh] 41):=⟨_,rfl⟩
 have B0:Hid (Below w.heap.size w w0):=by show Below _ _ _; rw [hw0]; exact ((Below.refl _ _).alloc (Nat.le_refl _) _).alloc (by simp) _
 have hbx:=two_blocks w (.cells #[.slice p1 q1 r1,.int .i64 x.num,.int .i64 x.base,.int .i64 x.tm,.int .i64 x.next,.int .i64 x.scope,.bool x.ind,.slice p2 q2 r2,.slice p3 q3 r3] 39) (.cells #[.int .i64 sc,.int .u64 yy,.int .i64 hh] 41)
 rw [← hw0] at hbx
 have L0:Hid (w0.heap[w.heap.size]? = some (.cells #[.slice p1 q1 r1,.int .i64 x.num,.int .i64 x.base,.int .i64 x.tm,.int .i64 x.next,.int .i64 x.scope,.bool x.ind,.slice p2 q2 r2,.slice p3 q3 r3] 39 (0,0))):=hbx.1
 have P0:Hid (w0.heap[w.heap.size+1]? = some (.cells #[.int .i64 sc,.int .u64 yy,.int .i64 hh] 41 (0,0))):=hbx.2
 clear hbx
 have hok:∀ W,Below w.heap.size w0 W→Calls Tryz.prog 13 #[.agg #[.slice p1 q1 r1,.int .i64 x.num,.int .i64 x.base,.int .i64 x.tm,.int .i64 x.next,.int .i64 x.scope,.bool x.ind,.slice p2 q2 r2,.slice p3 q3 r3]] W (Says (crlP x) W):=fun W hW=>specCrlOk_any p1 q1 r1 p2 q2 r2 p3 q3 r3 x W (h.kept (B0.out.trans hW)) hz
 have HBB:w.heap.size≤w0.heap.size:=B0.out.size
 by_cases hP:crlP x
 ·have HOK:Hid (∀ W,Below w.heap.size w0 W→Calls Tryz.prog 13 #[.agg #[.slice p1 q1 r1,.int .i64 x.num,.int .i64 x.base,.int .i64 x.tm,.int .i64 x.next,.int .i64 x.scope,.bool x.ind,.slice p2 q2 r2,.slice p3 q3 r3]] W fun e w'=>e=.returned (.bool true)∧Below W.heap.size W w'):=fun W hW=>(hok W hW).mono (fun e w' q=>by
   obtain ⟨v,e1,e2,e3⟩:=q
   obtain rfl:=sayJ_t e2 hP
   exact ⟨e1,e3⟩)
  have hen:=crBody_enc hP
  obtain ⟨l,hl⟩:∃ l,l=crBody x:=⟨_,rfl⟩
  rw [← hl] at hen
  have HBD:Hid (∀ W,Below w.heap.size w0 W→Calls Tryz.prog 15 #[.agg #[.slice p1 q1 r1,.int .i64 x.num,.int .i64 x.base,.int .i64 x.tm,.int .i64 x.next,.int .i64 x.scope,.bool x.ind,.slice p2 q2 r2,.slice p3 q3 r3]] W fun e w'=>∃ a' c',e=.returned (.slice a' l.length c')∧Own W.heap.size w' a' l.length c' l∧Below W.heap.size W w'):=fun W hW=>l10Body_any p1 q1 r1 p2 q2 r2 p3 q3 r3 x l W (h.kept (B0.out.trans hW)) hP hen.1
  obtain ⟨vb,hvb⟩:∃ vb,vb=decide (anyP sc yy hh l x.sig):=⟨_,rfl⟩
  have HVG:Hid (∀ W a4 c4,Below w.heap.size w0 W→Own w.heap.size W a4 l.length c4 l→Calls Tryz.prog 14 #[.agg #[.int .i64 sc,.int .u64 yy,.int .i64 hh],.slice a4 l.length c4,.slice p3 q3 r3] W fun e w'=>e=.returned (.bool vb)∧Below W.heap.size W w'):=fun W a4 c4 hW ho4=>by
   rw [hvb]
   exact specVerifyAny_any sc yy hh a4 l.length c4 l p3 q3 r3 x.sig W hy ho4.toRow (by omega) ho4.nil (h.sg.kept (B0.out.trans hW)) hz.2.2.2.2 hcg
  have HVV:Hid (vb=true↔clP x sc yy hh):=by
   show vb=true↔clP x sc yy hh
   rw [hvb,decide_eq_true_eq,hl]
   exact ⟨fun q=>⟨hP,q⟩,fun q=>q.2⟩
  clear h hz hy hcg hP hok hvb hl hen
  go_enter Tryz.func5,Tryz.ntmps5
  go_upto_region 1 with fail
  rw [← hw0]
  clear hw0
  refine wp_region_rk (cjsT p1 q1 r1 p2 q2 r2 p3 q3 r3 x sc yy hh l vb w.heap.size (w.heap.size)) [4,5,6,7,8,9,10,11,12,13,14] (w.heap.size) (fun a0=>a0.tmps.size=15∧aT a0 2=.pointer (some ⟨w.heap.size,0,none⟩)∧aT a0 3=.pointer (some ⟨(w.heap.size+1),0,none⟩)) (by kernel_rfl) rfl (by kernel_rfl) rfl ⟨rfl,rfl,rfl⟩ (cjsT_stb p1 q1 r1 p2 q2 r2 p3 q3 r3 x sc yy hh l vb w.heap.size (w.heap.size)) ?_ ?_ ?_
  ·intro k hk hk2
   match k,hk,hk2 with
   | 11,_,_=>exact L0.out
   | 12,_,_=>exact P0.out
   | 0,hk,_=>exact absurd hk (by show ¬ (11≤0); omega)
   | 1,hk,_=>exact absurd hk (by show ¬ (11≤1); omega)
   | 2,hk,_=>exact absurd hk (by show ¬ (11≤2); omega)
   | 3,hk,_=>exact absurd hk (by show ¬ (11≤3); omega)
   | 4,hk,_=>exact absurd hk (by show ¬ (11≤4); omega)
   | 5,hk,_=>exact absurd hk (by show ¬ (11≤5); omega)
   | 6,hk,_=>exact absurd hk (by show ¬ (11≤6); omega)
   | 7,hk,_=>exact absurd hk (by show ¬ (11≤7); omega)
   | 8,hk,_=>exact absurd hk (by show ¬ (11≤8); omega)
   | 9,hk,_=>exact absurd hk (by show ¬ (11≤9); omega)
   | 10,hk,_=>exact absurd hk (by show ¬ (11≤10); omega)
   | k+13,_,hk2=>exact absurd hk2 (by show ¬ (k+13<13); omega)
  ·rintro a0 ⟨hz,g2,g3⟩
   refine StepsRK.cons ?_ (StepsRK.cons ?_ (StepsRK.cons ?_ (StepsRK.cons ?_ (StepsRK.cons ?_ (StepsRK.cons ?_ (StepsRK.cons ?_ (StepsRK.cons ?_ (StepsRK.cons ?_ (StepsRK.cons ?_ (StepsRK.cons ?_ (StepsRK.nil)))))))))))
   ·intro lQ b W hI hUN hED KQ hKQ
    refine rk_plain rfl ?_
    have hg:=(hI.vot 11 (of_decide_eq_true rfl) (of_decide_eq_true rfl) rfl)
    refine wp_load_row 39 _ rfl (w.heap.size) ((hI.fr.same 2 (by decide)).trans g2) 39 #[.slice p1 q1 r1,.int .i64 x.num,.int .i64 x.base,.int .i64 x.tm,.int .i64 x.next,.int .i64 x.scope,.bool x.ind,.slice p2 q2 r2,.slice p3 q3 r3] (0,0) _ hg Tryz.underlying39 rfl (by kernel_rfl) ?_
    exact hKQ.out _ _ (hI.put 0 5 rfl rfl (by rw [hz]; decide) rfl hUN rfl HBB (cjsT_stb p1 q1 r1 p2 q2 r2 p3 q3 r3 x sc yy hh l vb w.heap.size (w.heap.size)) (Below.refl _ _) rfl)
   ·intro lQ b W hI hUN hED KQ hKQ
    refine rk_plain rfl ?_
    have f0:aT b 5=.agg #[.slice p1 q1 r1,.int .i64 x.num,.int .i64 x.base,.int .i64 x.tm,.int .i64 x.next,.int .i64 x.scope,.bool x.ind,.slice p2 q2 r2,.slice p3 q3 r3]:=hI.got 0 (of_decide_eq_true rfl) (edge hED 0 (by kernel_rfl)) rfl
    refine opw_call 13 #[.tmp 5] _ _ _ rfl Tryz.func13 (by kernel_rfl) rfl #[.agg #[.slice p1 q1 r1,.int .i64 x.num,.int .i64 x.base,.int .i64 x.tm,.int .i64 x.next,.int .i64 x.scope,.bool x.ind,.slice p2 q2 r2,.slice p3 q3 r3]] (by simp [ev,f0]) ?_
    refine (HOK.out W hI.bel).mono ?_
    rintro r W2 ⟨rfl,hb⟩
    exact ⟨_,rfl,hKQ.out _ _ (hI.put 1 6 rfl rfl (by rw [hz]; decide) rfl hUN rfl HBB (cjsT_stb p1 q1 r1 p2 q2 r2 p3 q3 r3 x sc yy hh l vb w.heap.size (w.heap.size)) hb rfl)⟩
   ·intro lQ b W hI hUN hED KQ hKQ
    refine rk_plain rfl ?_
    have f:=hI.got 1 (of_decide_eq_true rfl) (edge hED 1 (by kernel_rfl)) rfl
    exact opw_move 6 rfl (hKQ.out _ _ (hI.put 2 7 rfl rfl (by rw [hz]; decide) rfl hUN rfl HBB (cjsT_stb p1 q1 r1 p2 q2 r2 p3 q3 r3 x sc yy hh l vb w.heap.size (w.heap.size)) (Below.refl _ _) f))
   ·intro lQ b W hI hUN hED KQ hKQ
    refine rk_take 2 true 7 rfl rfl (hI.got 2 (of_decide_eq_true rfl) (edge hED 2 (by kernel_rfl)) rfl) ?_
    have hg:=(hI.vot 12 (of_decide_eq_true rfl) (of_decide_eq_true rfl) rfl)
    refine wp_load_row 41 _ rfl ((w.heap.size+1)) ((hI.fr.same 3 (by decide)).trans g3) 41 #[.int .i64 sc,.int .u64 yy,.int .i64 hh] (0,0) _ hg Tryz.underlying41 rfl (by kernel_rfl) ?_
    exact hKQ.out _ _ (hI.put 3 8 rfl rfl (by rw [hz]; decide) rfl hUN rfl HBB (cjsT_stb p1 q1 r1 p2 q2 r2 p3 q3 r3 x sc yy hh l vb w.heap.size (w.heap.size)) (Below.refl _ _) rfl)
   ·intro lQ b W hI hUN hED KQ hKQ
    refine rk_take 2 true 7 rfl rfl (hI.got 2 (of_decide_eq_true rfl) (edge hED 2 (by kernel_rfl)) rfl) ?_
    have hg:=(hI.vot 11 (of_decide_eq_true rfl) (of_decide_eq_true rfl) rfl)
    refine wp_load_row 39 _ rfl (w.heap.size) ((hI.fr.same 2 (by decide)).trans g2) 39 #[.slice p1 q1 r1,.int .i64 x.num,.int .i64 x.base,.int .i64 x.tm,.int .i64 x.next,.int .i64 x.scope,.bool x.ind,.slice p2 q2 r2,.slice p3 q3 r3] (0,0) _ hg Tryz.underlying39 rfl (by kernel_rfl) ?_
    exact hKQ.out _ _ (hI.put 4 9 rfl rfl (by rw [hz]; decide) rfl hUN rfl HBB (cjsT_stb p1 q1 r1 p2 q2 r2 p3 q3 r3 x sc yy hh l vb w.heap.size (w.heap.size)) (Below.refl _ _) rfl)
   ·intro lQ b W hI hUN hED KQ hKQ
    refine rk_take 2 true 7 rfl rfl (hI.got 2 (of_decide_eq_true rfl) (edge hED 2 (by kernel_rfl)) rfl) ?_
    have f0:aT b 9=.agg #[.slice p1 q1 r1,.int .i64 x.num,.int .i64 x.base,.int .i64 x.tm,.int .i64 x.next,.int .i64 x.scope,.bool x.ind,.slice p2 q2 r2,.slice p3 q3 r3]:=hI.got 4 (of_decide_eq_true rfl) (edge hED 4 (by kernel_rfl)) rfl
    refine opw_call 15 #[.tmp 9] _ _ _ rfl Tryz.func15 (by kernel_rfl) rfl #[.agg #[.slice p1 q1 r1,.int .i64 x.num,.int .i64 x.base,.int .i64 x.tm,.int .i64 x.next,.int .i64 x.scope,.bool x.ind,.slice p2 q2 r2,.slice p3 q3 r3]] (by simp [ev,f0]) ?_
    refine (HBD.out W hI.bel).mono ?_
    rintro r W2 ⟨a4,c4,rfl,ho,hb⟩
    exact ⟨_,rfl,hKQ.out _ _ (hI.put 5 10 rfl rfl (by rw [hz]; decide) rfl hUN rfl HBB (cjsT_stb p1 q1 r1 p2 q2 r2 p3 q3 r3 x sc yy hh l vb w.heap.size (w.heap.size)) hb ⟨a4,c4,rfl,ho.mono (Nat.le_trans HBB hI.bel.size)⟩)⟩
   ·intro lQ b W hI hUN hED KQ hKQ
    refine rk_take 2 true 7 rfl rfl (hI.got 2 (of_decide_eq_true rfl) (edge hED 2 (by kernel_rfl)) rfl) ?_
    exact opw_field 39 2 8 rfl _ ((hI.fr.same 2 (by decide)).trans g2) _ (by kernel_rfl) (hKQ.out _ _ (hI.put 6 11 rfl rfl (by rw [hz]; decide) rfl hUN rfl HBB (cjsT_stb p1 q1 r1 p2 q2 r2 p3 q3 r3 x sc yy hh l vb w.heap.size (w.heap.size)) (Below.refl _ _) rfl))
   ·intro lQ b W hI hUN hED KQ hKQ
    refine rk_take 2 true 7 rfl rfl (hI.got 2 (of_decide_eq_true rfl) (edge hED 2 (by kernel_rfl)) rfl) ?_
    have f:=hI.got 6 (of_decide_eq_true rfl) (edge hED 6 (by kernel_rfl)) rfl
    have hg:=(hI.vot 11 (of_decide_eq_true rfl) (of_decide_eq_true rfl) rfl)
    have hc:W.cell? ⟨w.heap.size,8,none⟩=some (.slice p3 q3 r3):=(cell_of_row _ _ 8 _ _ (0,0) hg).trans rfl
    exact opw_load1 26 11 rfl _ f _ (by simp [Instr.loadAt,go_sem,hc]) (hKQ.out _ _ (hI.put 7 12 rfl rfl (by rw [hz]; decide) rfl hUN rfl HBB (cjsT_stb p1 q1 r1 p2 q2 r2 p3 q3 r3 x sc yy hh l vb w.heap.size (w.heap.size)) (Below.refl _ _) rfl))
   ·intro lQ b W hI hUN hED KQ hKQ
    refine rk_take 2 true 7 rfl rfl (hI.got 2 (of_decide_eq_true rfl) (edge hED 2 (by kernel_rfl)) rfl) ?_
    have f0:aT b 8=.agg #[.int .i64 sc,.int .u64 yy,.int .i64 hh]:=hI.got 3 (of_decide_eq_true rfl) (edge hED 3 (by kernel_rfl)) rfl
    obtain ⟨a4,c4,f1,o1⟩:=hI.got 5 (of_decide_eq_true rfl) (edge hED 5 (by kernel_rfl)) rfl
    replace f1:aT b 10=.slice a4 l.length c4:=f1
    have f2:aT b 12=.slice p3 q3 r3:=hI.got 7 (of_decide_eq_true rfl) (edge hED 7 (by kernel_rfl)) rfl
    refine opw_call 14 #[.tmp 8,.tmp 10,.tmp 12] _ _ _ rfl Tryz.func14 (by kernel_rfl) rfl #[.agg #[.int .i64 sc,.int .u64 yy,.int .i64 hh],.slice a4 l.length c4,.slice p3 q3 r3] (by simp [ev,f0,f1,f2]) ?_
    refine (HVG.out W a4 c4 hI.bel o1).mono ?_
    rintro r W2 ⟨rfl,hb⟩
    exact ⟨_,rfl,hKQ.out _ _ (hI.put 8 13 rfl rfl (by rw [hz]; decide) rfl hUN rfl HBB (cjsT_stb p1 q1 r1 p2 q2 r2 p3 q3 r3 x sc yy hh l vb w.heap.size (w.heap.size)) hb rfl)⟩
   ·intro lQ b W hI hUN hED KQ hKQ
    refine rk_plain rfl ?_
    have fc:aT b 7=.bool true:=hI.got 2 (of_decide_eq_true rfl) (edge hED 2 (by kernel_rfl)) rfl
    have f:=hI.got 8 (of_decide_eq_true rfl) (edge hED 8 (by kernel_rfl)) rfl
    replace f:aT b 13=.bool vb:=f
    exact opw_pick_t 7 _ _ rfl fc _ f (hKQ.out _ _ (hI.put 9 14 rfl rfl (by rw [hz]; decide) rfl hUN rfl HBB (cjsT_stb p1 q1 r1 p2 q2 r2 p3 q3 r3 x sc yy hh l vb w.heap.size (w.heap.size)) (Below.refl _ _) rfl))
   ·intro lQ b W hI hUN hED KQ hKQ
    refine rk_plain rfl ?_
    have f:=hI.got 9 (of_decide_eq_true rfl) (edge hED 9 (by kernel_rfl)) rfl
    exact opw_assign 14 rfl (hKQ.out _ _ (hI.put 10 4 rfl rfl (by rw [hz]; decide) rfl hUN rfl HBB (cjsT_stb p1 q1 r1 p2 q2 r2 p3 q3 r3 x sc yy hh l vb w.heap.size (w.heap.size)) (Below.refl _ _) f))
  ·intro b W hf hb F
   have e4:aT b 4=.bool vb:=F 10 (of_decide_eq_true rfl) rfl
   rw [hf.eq]
   simp only [puts,Act.put,List.setIfInBounds_toArray,List.set_cons_zero,List.set_cons_succ,e4]
   clear hf F e4
   generalize aT b=AT
   clear b
   go_wp2
   go_ret
   exact ⟨vb,rfl,HVV,B0.out.trans hb⟩
 ·have HOK:Hid (∀ W,Below w.heap.size w0 W→Calls Tryz.prog 13 #[.agg #[.slice p1 q1 r1,.int .i64 x.num,.int .i64 x.base,.int .i64 x.tm,.int .i64 x.next,.int .i64 x.scope,.bool x.ind,.slice p2 q2 r2,.slice p3 q3 r3]] W fun e w'=>e=.returned (.bool false)∧Below W.heap.size W w'):=fun W hW=>(hok W hW).mono (fun e w' q=>by
   obtain ⟨v,e1,e2,e3⟩:=q
   obtain rfl:=sayJ_f e2 hP
   exact ⟨e1,e3⟩)
  obtain ⟨l,hl⟩:∃ l:List Int,l = []:=⟨_,rfl⟩
  obtain ⟨vb,hvb⟩:∃ vb:Bool,vb=false:=⟨_,rfl⟩
  have HVV:Hid (false=true↔clP x sc yy hh):=⟨fun q=>(by cases q),fun q=>absurd q.1 hP⟩
  clear h hz hy hcg hP hok hvb hl
  go_enter Tryz.func5,Tryz.ntmps5
  go_upto_region 1 with fail
  rw [← hw0]
  clear hw0
  refine wp_region_rk (cjsF p1 q1 r1 p2 q2 r2 p3 q3 r3 x sc yy hh l vb w.heap.size (w.heap.size)) [4,5,6,7,8,9,10,11,12,13,14] (w.heap.size) (fun a0=>a0.tmps.size=15∧aT a0 2=.pointer (some ⟨w.heap.size,0,none⟩)) (by kernel_rfl) rfl (by kernel_rfl) rfl ⟨rfl,rfl⟩ (cjsF_stb p1 q1 r1 p2 q2 r2 p3 q3 r3 x sc yy hh l vb w.heap.size (w.heap.size)) ?_ ?_ ?_
  ·intro k hk hk2
   match k,hk,hk2 with
   | 11,_,_=>exact L0.out
   | 12,_,_=>exact P0.out
   | 0,hk,_=>exact absurd hk (by show ¬ (11≤0); omega)
   | 1,hk,_=>exact absurd hk (by show ¬ (11≤1); omega)
   | 2,hk,_=>exact absurd hk (by show ¬ (11≤2); omega)
   | 3,hk,_=>exact absurd hk (by show ¬ (11≤3); omega)
   | 4,hk,_=>exact absurd hk (by show ¬ (11≤4); omega)
   | 5,hk,_=>exact absurd hk (by show ¬ (11≤5); omega)
   | 6,hk,_=>exact absurd hk (by show ¬ (11≤6); omega)
   | 7,hk,_=>exact absurd hk (by show ¬ (11≤7); omega)
   | 8,hk,_=>exact absurd hk (by show ¬ (11≤8); omega)
   | 9,hk,_=>exact absurd hk (by show ¬ (11≤9); omega)
   | 10,hk,_=>exact absurd hk (by show ¬ (11≤10); omega)
   | k+13,_,hk2=>exact absurd hk2 (by show ¬ (k+13<13); omega)
  ·rintro a0 ⟨hz,g2⟩
   refine StepsRK.cons ?_ (StepsRK.cons ?_ (StepsRK.cons ?_ (StepsRK.cons ?_ (StepsRK.cons ?_ (StepsRK.cons ?_ (StepsRK.cons ?_ (StepsRK.cons ?_ (StepsRK.cons ?_ (StepsRK.cons ?_ (StepsRK.cons ?_ (StepsRK.nil)))))))))))
   ·intro lQ b W hI hUN hED KQ hKQ
    refine rk_plain rfl ?_
    have hg:=(hI.vot 11 (of_decide_eq_true rfl) (of_decide_eq_true rfl) rfl)
    refine wp_load_row 39 _ rfl (w.heap.size) ((hI.fr.same 2 (by decide)).trans g2) 39 #[.slice p1 q1 r1,.int .i64 x.num,.int .i64 x.base,.int .i64 x.tm,.int .i64 x.next,.int .i64 x.scope,.bool x.ind,.slice p2 q2 r2,.slice p3 q3 r3] (0,0) _ hg Tryz.underlying39 rfl (by kernel_rfl) ?_
    exact hKQ.out _ _ (hI.put 0 5 rfl rfl (by rw [hz]; decide) rfl hUN rfl HBB (cjsF_stb p1 q1 r1 p2 q2 r2 p3 q3 r3 x sc yy hh l vb w.heap.size (w.heap.size)) (Below.refl _ _) rfl)
   ·intro lQ b W hI hUN hED KQ hKQ
    refine rk_plain rfl ?_
    have f0:aT b 5=.agg #[.slice p1 q1 r1,.int .i64 x.num,.int .i64 x.base,.int .i64 x.tm,.int .i64 x.next,.int .i64 x.scope,.bool x.ind,.slice p2 q2 r2,.slice p3 q3 r3]:=hI.got 0 (of_decide_eq_true rfl) (edge hED 0 (by kernel_rfl)) rfl
    refine opw_call 13 #[.tmp 5] _ _ _ rfl Tryz.func13 (by kernel_rfl) rfl #[.agg #[.slice p1 q1 r1,.int .i64 x.num,.int .i64 x.base,.int .i64 x.tm,.int .i64 x.next,.int .i64 x.scope,.bool x.ind,.slice p2 q2 r2,.slice p3 q3 r3]] (by simp [ev,f0]) ?_
    refine (HOK.out W hI.bel).mono ?_
    rintro r W2 ⟨rfl,hb⟩
    exact ⟨_,rfl,hKQ.out _ _ (hI.put 1 6 rfl rfl (by rw [hz]; decide) rfl hUN rfl HBB (cjsF_stb p1 q1 r1 p2 q2 r2 p3 q3 r3 x sc yy hh l vb w.heap.size (w.heap.size)) hb rfl)⟩
   ·intro lQ b W hI hUN hED KQ hKQ
    refine rk_plain rfl ?_
    have f:=hI.got 1 (of_decide_eq_true rfl) (edge hED 1 (by kernel_rfl)) rfl
    exact opw_move 6 rfl (hKQ.out _ _ (hI.put 2 7 rfl rfl (by rw [hz]; decide) rfl hUN rfl HBB (cjsF_stb p1 q1 r1 p2 q2 r2 p3 q3 r3 x sc yy hh l vb w.heap.size (w.heap.size)) (Below.refl _ _) f))
   ·intro lQ b W hI hUN hED KQ hKQ
    exact rk_skip 2 true 7 (.bool false) rfl rfl (hI.got 2 (of_decide_eq_true rfl) (edge hED 2 (by kernel_rfl)) rfl) rfl (hKQ.out _ _ (hI.put 3 8 rfl rfl (by rw [hz]; decide) rfl hUN rfl HBB (cjsF_stb p1 q1 r1 p2 q2 r2 p3 q3 r3 x sc yy hh l vb w.heap.size (w.heap.size)) (Below.refl _ _) rfl))
   ·intro lQ b W hI hUN hED KQ hKQ
    exact rk_skip 2 true 7 (.bool false) rfl rfl (hI.got 2 (of_decide_eq_true rfl) (edge hED 2 (by kernel_rfl)) rfl) rfl (hKQ.out _ _ (hI.put 4 9 rfl rfl (by rw [hz]; decide) rfl hUN rfl HBB (cjsF_stb p1 q1 r1 p2 q2 r2 p3 q3 r3 x sc yy hh l vb w.heap.size (w.heap.size)) (Below.refl _ _) rfl))
   ·intro lQ b W hI hUN hED KQ hKQ
    exact rk_skip 2 true 7 (.bool false) rfl rfl (hI.got 2 (of_decide_eq_true rfl) (edge hED 2 (by kernel_rfl)) rfl) rfl (hKQ.out _ _ (hI.put 5 10 rfl rfl (by rw [hz]; decide) rfl hUN rfl HBB (cjsF_stb p1 q1 r1 p2 q2 r2 p3 q3 r3 x sc yy hh l vb w.heap.size (w.heap.size)) (Below.refl _ _) rfl))
   ·intro lQ b W hI hUN hED KQ hKQ
    exact rk_skip 2 true 7 (.bool false) rfl rfl (hI.got 2 (of_decide_eq_true rfl) (edge hED 2 (by kernel_rfl)) rfl) rfl (hKQ.out _ _ (hI.put 6 11 rfl rfl (by rw [hz]; decide) rfl hUN rfl HBB (cjsF_stb p1 q1 r1 p2 q2 r2 p3 q3 r3 x sc yy hh l vb w.heap.size (w.heap.size)) (Below.refl _ _) rfl))
   ·intro lQ b W hI hUN hED KQ hKQ
    exact rk_skip 2 true 7 (.bool false) rfl rfl (hI.got 2 (of_decide_eq_true rfl) (edge hED 2 (by kernel_rfl)) rfl) rfl (hKQ.out _ _ (hI.put 7 12 rfl rfl (by rw [hz]; decide) rfl hUN rfl HBB (cjsF_stb p1 q1 r1 p2 q2 r2 p3 q3 r3 x sc yy hh l vb w.heap.size (w.heap.size)) (Below.refl _ _) rfl))
   ·intro lQ b W hI hUN hED KQ hKQ
    exact rk_skip 2 true 7 (.bool false) rfl rfl (hI.got 2 (of_decide_eq_true rfl) (edge hED 2 (by kernel_rfl)) rfl) rfl (hKQ.out _ _ (hI.put 8 13 rfl rfl (by rw [hz]; decide) rfl hUN rfl HBB (cjsF_stb p1 q1 r1 p2 q2 r2 p3 q3 r3 x sc yy hh l vb w.heap.size (w.heap.size)) (Below.refl _ _) rfl))
   ·intro lQ b W hI hUN hED KQ hKQ
    refine rk_plain rfl ?_
    have fc:aT b 7=.bool false:=hI.got 2 (of_decide_eq_true rfl) (edge hED 2 (by kernel_rfl)) rfl
    exact opw_pick_f 7 _ _ rfl fc _ rfl (hKQ.out _ _ (hI.put 9 14 rfl rfl (by rw [hz]; decide) rfl hUN rfl HBB (cjsF_stb p1 q1 r1 p2 q2 r2 p3 q3 r3 x sc yy hh l vb w.heap.size (w.heap.size)) (Below.refl _ _) rfl))
   ·intro lQ b W hI hUN hED KQ hKQ
    refine rk_plain rfl ?_
    have f:=hI.got 9 (of_decide_eq_true rfl) (edge hED 9 (by kernel_rfl)) rfl
    exact opw_assign 14 rfl (hKQ.out _ _ (hI.put 10 4 rfl rfl (by rw [hz]; decide) rfl hUN rfl HBB (cjsF_stb p1 q1 r1 p2 q2 r2 p3 q3 r3 x sc yy hh l vb w.heap.size (w.heap.size)) (Below.refl _ _) f))
  ·intro b W hf hb F
   have e4:aT b 4=.bool false:=F 10 (of_decide_eq_true rfl) rfl
   rw [hf.eq]
   simp only [puts,Act.put,List.setIfInBounds_toArray,List.set_cons_zero,List.set_cons_succ,e4]
   clear hf F e4
   generalize aT b=AT
   clear b
   go_wp2
   go_ret
   exact ⟨false,rfl,HVV,B0.out.trans hb⟩
end Go.Proofs.YtkdandggklpppaaGreatDoor
