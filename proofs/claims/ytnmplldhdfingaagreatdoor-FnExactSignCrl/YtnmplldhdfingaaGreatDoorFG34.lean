import Derived.Test.YtnmplldhdfingaaGreatDoorFG32
import Derived.Test.YtnmplldhdfingaaGreatDoorFG33
set_option maxRecDepth 10000
set_option maxHeartbeats 8000000
set_option linter.unusedVariables false
namespace Go.Proofs.YtnmplldhdfingaaGreatDoor
open Go.RowKit Go.Sort
def flPt (xs:List PT):List Value:=xs.flatMap fun x=>[Value.int .i64 x.attr,.string x.val]
theorem flPt_cons (p:PT)(r:List PT):flPt (p::r)=Value.int .i64 p.attr::.string p.val::flPt r:=rfl
theorem flPt_len (ps:List PT):(flPt ps).length=ps.length * 2:=by
 induction ps with
 | nil=>rfl
 | cons p r ih=>rw [flPt_cons]; simp [ih]; omega
theorem flPt_get (ps:List PT):∀ k,k<ps.length→(flPt ps)[k * 2]? = some (.int .i64 (ps.getD k default).attr)∧(flPt ps)[k * 2+1]? = some (.string (ps.getD k default).val):=by
 induction ps with
 | nil=>intro k h; simp at h
 | cons p r ih =>
  intro k h
  cases k with
  | zero=>simp [flPt_cons]
  | succ k =>
   have:=ih k (by simpa using h)
   rw [flPt_cons,show (k+1) * 2=k * 2+1+1 by omega]
   simpa using this
theorem flPt_one (ps:List PT):∀ u∈flPt ps,u.oneCell'=true:=by
 induction ps with
 | nil=>intro u hu; simp [flPt] at hu
 | cons p r ih =>
  intro u hu
  rw [flPt_cons] at hu
  simp only [List.mem_cons] at hu
  rcases hu with rfl | rfl | hu
  ·rfl
  ·rfl
  ·exact ih u hu
theorem newsPt {w:World}{b off n:Nat}{ps:List PT}(h:Pts w (some ⟨b,off,none⟩) n ps):∀ j u,(flPt ps)[j]? = some u→w.cell? ((⟨b,off,none⟩:Addr).add j)=some u:=by
 intro j u hu
 have hl:=h.len
 have hj:j<n * 2:=by have:=(List.getElem?_eq_some_iff.1 hu).1; rw [flPt_len,hl] at this; exact this
 obtain ⟨b',off',ha,hlt,hc,_⟩:=h.get (j / 2) (by omega)
 simp only [Option.some.injEq,Addr.mk.injEq,and_true] at ha
 obtain ⟨rfl,rfl⟩:=ha
 have hf:=flPt_get ps (j / 2) (by omega)
 rw [Addr.add_lit]
 have hd:j=j / 2 * 2+j % 2:=by omega
 have hm:j % 2<2:=by omega
 generalize j / 2=k at hd hf hc
 generalize j % 2=i at hd hm
 subst hd
 show w.cell? ⟨b,off+(k * 2+i),none⟩=_
 rw [← Nat.add_assoc,← hu]
 rcases (show i=0∨i=1 by omega) with rfl | rfl
 ·exact hc.c0.trans hf.1.symm
 ·exact hc.c1.trans hf.2.symm
theorem pts_of_row {B:Nat}{w:World}{a:Option Addr}{n c:Nat}{ps:List PT}(h:w.ownsRow B 132 2 (.slice a n c) n (flPt ps))(hl:ps.length=n)(hn:n≤9223372036854775807)(hs:∀ k,k<n→(ps.getD k default).val.size≤9223372036854775807):Pts w a n ps:=by
 refine ⟨hl,hn,fun k hk=>?_⟩
 obtain ⟨g,rfl,_,hg⟩:=ownsRow_shape h (by omega)
 obtain ⟨f0,f1⟩:=flPt_get ps k (by omega)
 exact ⟨g,0,rfl,hg,⟨by rw [Nat.zero_add]; exact (h.cellAt (k * 2) (by omega)).trans f0,by rw [Nat.zero_add]; exact (h.cellAt (k * 2+1) (by omega)).trans f1⟩,hs k hk⟩
theorem owns_shapeP {w:World}{B e s n:Nat}{v:Value}{xs:List Value}(h:w.ownsRow B e s v n xs):∃ a c,v=.slice a n c:=by
 rcases h.2 with ⟨rfl,rfl⟩ | ⟨g,cap,cur,rfl,_⟩
 ·exact ⟨_,_,rfl⟩
 ·exact ⟨_,_,rfl⟩
theorem clonePt_any (a:Option Addr)(n cap:Nat)(ps:List PT)(w:World)(h:Pts w a n ps)(hnil:a=none→cap=0)(hn:n≤1048576) :
  Calls Tryz.prog 114 #[.slice a n cap] w fun e w'=>∃ a' cap',e=.returned (.slice a' n cap')∧w'.ownsRow w.heap.size 132 2 (.slice a' n cap') n (flPt ps)∧(a'=none→cap'=0)∧Below w.heap.size w w':=by
 obtain ⟨i0,hi,hz0,hz1,hz2⟩:=info_parts Tryz.infoPart
 cases a with
 | none =>
  have hz:n=0:=by
   by_cases h0:0<n
   ·obtain ⟨_,_,h1,_⟩:=h.get 0 h0
    cases h1
   ·omega
  subst hz
  obtain rfl:=hnil rfl
  have hps:ps = []:=List.eq_nil_of_length_eq_zero h.len
  subst hps
  clear h
  have he:∀ w:World,(binOp .eql 33 (.slice none 0 0) (.slice none 0 0)).run Tryz.prog w=.ok (.bool true) w:=fun _=>rfl
  go_enter Tryz.func114,Tryz.ntmps114
  go_wp2
  go_ret
  exact ⟨none,0,rfl,World.ownsRow_nil _ _ _ _,fun _=>rfl,Below.refl _ _⟩
 | some ad =>
  have hB1:Below w.heap.size w (w.alloc (.cells #[] 132)):=(Below.refl _ _).alloc (Nat.le_refl _) _
  have HO:Hid ((w.alloc (.cells #[] 132)).ownsRow w.heap.size 132 2 (.slice (some ⟨w.heap.size,0,none⟩) 0 0) 0 []):=⟨rfl,.inr ⟨w.heap.size,0,#[],rfl,Nat.le_refl _,heap_alloc_new w _,Nat.le_refl _,by decide,rfl,rfl⟩⟩
  have HR:Hid (Pts (w.alloc (.cells #[] 132)) (some ad) n ps):=h.kept hB1
  have HN:Hid (∀ j u,(flPt ps)[j]? = some u→(w.alloc (.cells #[] 132)).cell? (ad.add j)=some u):=by
   by_cases h0:0<n
   ·obtain ⟨b,off,ha,_⟩:=HR.out.get 0 h0
    injection ha with ha
    subst ha
    exact newsPt HR.out
   ·intro j u hu
    have:=(List.getElem?_eq_some_iff.1 hu).1
    rw [flPt_len,HR.out.len] at this
    omega
  have HL:Hid ((flPt ps).length=n * 2):=by show _=_; rw [flPt_len,HR.out.len]
  clear h
  have he:∀ w:World,(binOp .eql 33 (.slice (some ad) n cap) (.slice none 0 0)).run Tryz.prog w=.ok (.bool false) w:=fun _=>rfl
  go_enter Tryz.func114,Tryz.ntmps114
  go_wp2_with (at_builtin; refine wpList_append_own _ rfl (.tmp 5) (.tmp 6) 33 rfl w.heap.size 132 i0 _ 2 24 Tryz.underlying33 hi hz0 hz1 hz2 rfl (by decide) _ 0 [] rfl HO.out ad n cap (flPt ps) rfl HL.out HN.out (flPt_one ps) (by unfold maxLen; omega) (by omega) hB1.size ?_; intro v1 w1 hv1 hg1 _; rw [Nat.zero_add,List.nil_append] at hv1; have hnc:∀ c,v1=.slice none n c→c=0:=(fun c e=>by rcases hv1.2 with ⟨q,_⟩ | ⟨g,c',cur,q,_⟩ <;> rw [e] at q <;> simp only [Value.slice.injEq] at q <;> simp_all); obtain ⟨a1,c1,rfl⟩:=owns_shapeP hv1; have hb1:Below w.heap.size w w1:=hB1.grown hg1 hB1.size (fun j hj=>(HO.out.lt j hj).1))
  go_ret
  exact ⟨a1,c1,rfl,hv1,fun e=>hnc c1 (by rw [e]),hb1⟩
open Go.RowKit Go.Sort
theorem cloneName_any (a:Option Addr)(n cap:Nat)(ps:List PT)(w:World)(h:Pts w a n ps)(hnil:a=none→cap=0)(hn:n≤1048576) :
  Calls Tryz.prog 72 #[.agg #[.slice a n cap]] w fun e w'=>∃ a' cap',e=.returned (.agg #[.slice a' n cap'])∧w'.ownsRow (w.heap.size+2) 132 2 (.slice a' n cap') n (flPt ps)∧(a'=none→cap'=0)∧Below w.heap.size w w':=by
 obtain ⟨W0,hW0⟩:∃ W0,W0=(w.alloc (.cells #[.slice a n cap] 35)).alloc (.cells #[.slice none 0 0] 35):=⟨_,rfl⟩
 have hB0:Below w.heap.size w W0:=by rw [hW0]; exact two_below _ _ _
 have hS0:W0.heap.size=w.heap.size+2:=by rw [hW0]; simp
 have b0:=two_blocks w (.cells #[.slice a n cap] 35) (.cells #[.slice none 0 0] 35)
 rw [← hW0] at b0
 have x0:W0.cell? ⟨w.heap.size,0,none⟩=some (.slice a n cap):=qk b0.1 rfl
 have M:=clonePt_any a n cap ps W0 (h.kept hB0) hnil hn
 have HW:Hid (_=_):=hW0
 clear hW0 h
 go_enter Tryz.func72,Tryz.ntmps72
 go_upto_region 1 with fail
 rw [← HW.out]
 clear HW
 go_wp2_with fail
 refine M.mono ?_
 rintro e w1 ⟨a1,c1,rfl,ho,hc1,hb1⟩
 have b1:w1.heap[w.heap.size+1]? = _:=(hb1.block (w.heap.size+1) (by omega)).trans b0.2
 have y1:w1.cell? ⟨w.heap.size+1,0,none⟩=some (.slice none 0 0):=qk b1 rfl
 have f1:w1.frozen? ⟨w.heap.size+1,0,none⟩=false:=frozen_of_row w1 (w.heap.size+1) 0 _ 35 b1
 have q1:=heap_setCell_same w1 (w.heap.size+1) 0 _ 35 (.slice a1 n c1) b1
 have tt:TouchS (fun i=>i=w.heap.size+1) w1 (w1.setCell ⟨w.heap.size+1,0,none⟩ (.slice a1 n c1)):=TouchS.set _ _ _ _ rfl
 have HO:Hid ((w1.setCell ⟨w.heap.size+1,0,none⟩ (.slice a1 n c1)).ownsRow (w.heap.size+2) 132 2 (.slice a1 n c1) n (flPt ps)):=ownsRow_keepS (by rw [← hS0]; exact ho) tt (fun g _ hg q=>by omega)
 have hBz:=hB0.trans (hb1.mono hB0.size)
 have HB:Hid (Below w.heap.size w (w1.setCell ⟨w.heap.size+1,0,none⟩ (.slice a1 n c1))):=⟨tt.os.trans hBz.os,tt.tape.trans hBz.tape,tt.output.trans hBz.output,Nat.le_trans hBz.size tt.size,fun l hl=>(tt.block l (by have:=hBz.size; omega) (by omega)).trans (hBz.block l hl)⟩
 have HQ:Hid (_=_):=q1
 clear M ho b0 b1 q1 tt hBz x0
 go_wp2
 try simp only [Exit.inBlock,Exit.then]
 exact bodyPost_ret (results_nm rfl _ (w.heap.size+1) rfl _ _ HQ.out) rfl ⟨a1,c1,rfl,HO.out,hc1,HB.out⟩
open Go.RowKit Go.Maps
def enA (a1:Option Addr)(n1 c1:Nat)(a2:Option Addr)(n2 c2:Nat)(a3:Option Addr)(n3 c3:Nat)(x:CP)(cq:Bool)(G B:Nat):RSpec where
 m:=22
 n:=23
 slots:=[3,4,5,6,7,8,9,10,11,12,13,14,15,16,17,18,19,20,21,22,23,2,100022]
 kills:=[[],[],[],[],[],[],[],[],[],[],[],[],[],[],[],[],[],[],[],[],[],[],[]]
 pres:=[[],[],[],[],[],[],[],[],[],[],[],[],[],[],[],[],[],[],[],[],[],[],[]]
 fact:=fun k v w=>match k with
  | 0=>v=.pointer (some ⟨G,7,none⟩)
  | 1=>v=.slice a2 n2 c2
  | 2=>v=.int .i64 n2
  | 3=>v=.bool false
  | 4=>v=.bool false
  | 5=>v=undef
  | 6=>v=undef
  | 7=>v=undef
  | 8=>v=undef
  | 9=>v=undef
  | 10=>v=.bool false
  | 11=>v=.bool false
  | 12=>v=undef
  | 13=>v=undef
  | 14=>v=undef
  | 15=>v=undef
  | 16=>v=undef
  | 17=>v=undef
  | 18=>v=undef
  | 19=>v=undef
  | 20=>v=.bool false
  | 21=>v=.bool false
  | _=>w.heap[G]? = some (.cells #[.slice a1 n1 c1,.int .i64 x.num,.int .i64 x.base,.int .i64 x.tm,.int .i64 x.next,.int .i64 x.scope,.bool x.ind,.slice a2 n2 c2,.slice a3 n3 c3] 38 (0,0))
theorem enA_stb (a1:Option Addr)(n1 c1:Nat)(a2:Option Addr)(n2 c2:Nat)(a3:Option Addr)(n3 c3:Nat)(x:CP)(cq:Bool)(G B:Nat)(k:Nat)(hk:k<23):StB ((enA a1 n1 c1 a2 n2 c2 a3 n3 c3 x cq G (B)).fact k):=by
 match k,hk with
 | 0,_=>exact fun _ _ _ h _=>h
 | 1,_=>exact fun _ _ _ h _=>h
 | 2,_=>exact fun _ _ _ h _=>h
 | 3,_=>exact fun _ _ _ h _=>h
 | 4,_=>exact fun _ _ _ h _=>h
 | 5,_=>exact fun _ _ _ h _=>h
 | 6,_=>exact fun _ _ _ h _=>h
 | 7,_=>exact fun _ _ _ h _=>h
 | 8,_=>exact fun _ _ _ h _=>h
 | 9,_=>exact fun _ _ _ h _=>h
 | 10,_=>exact fun _ _ _ h _=>h
 | 11,_=>exact fun _ _ _ h _=>h
 | 12,_=>exact fun _ _ _ h _=>h
 | 13,_=>exact fun _ _ _ h _=>h
 | 14,_=>exact fun _ _ _ h _=>h
 | 15,_=>exact fun _ _ _ h _=>h
 | 16,_=>exact fun _ _ _ h _=>h
 | 17,_=>exact fun _ _ _ h _=>h
 | 18,_=>exact fun _ _ _ h _=>h
 | 19,_=>exact fun _ _ _ h _=>h
 | 20,_=>exact fun _ _ _ h _=>h
 | 21,_=>exact fun _ _ _ h _=>h
 | 22,_=>exact fun _ _ _ q_0 hb=>below_kept q_0 hb
 | k+23,hk=>omega
def enB (a1:Option Addr)(n1 c1:Nat)(a2:Option Addr)(n2 c2:Nat)(a3:Option Addr)(n3 c3:Nat)(x:CP)(cq:Bool)(G B:Nat):RSpec where
 m:=22
 n:=23
 slots:=[3,4,5,6,7,8,9,10,11,12,13,14,15,16,17,18,19,20,21,22,23,2,100022]
 kills:=[[],[],[],[],[],[],[],[],[],[],[],[],[],[],[],[],[],[],[],[],[],[],[]]
 pres:=[[],[],[],[],[],[],[],[],[],[],[],[],[],[],[],[],[],[],[],[],[],[],[]]
 fact:=fun k v w=>match k with
  | 0=>v=.pointer (some ⟨G,7,none⟩)
  | 1=>v=.slice a2 n2 c2
  | 2=>v=.int .i64 n2
  | 3=>v=.bool true
  | 4=>v=.bool true
  | 5=>v=.pointer (some ⟨G,7,none⟩)
  | 6=>v=.slice a2 n2 c2
  | 7=>v=.agg #[.slice a1 n1 c1,.int .i64 x.num,.int .i64 x.base,.int .i64 x.tm,.int .i64 x.next,.int .i64 x.scope,.bool x.ind,.slice a2 n2 c2,.slice a3 n3 c3]
  | 8=>v=.func (Fn.func 103) #[.agg #[.slice a1 n1 c1,.int .i64 x.num,.int .i64 x.base,.int .i64 x.tm,.int .i64 x.next,.int .i64 x.scope,.bool x.ind,.slice a2 n2 c2,.slice a3 n3 c3]] #[]
  | 9=>v=.bool false
  | 10=>v=.bool false
  | 11=>v=.bool false
  | 12=>v=undef
  | 13=>v=undef
  | 14=>v=undef
  | 15=>v=undef
  | 16=>v=undef
  | 17=>v=undef
  | 18=>v=undef
  | 19=>v=undef
  | 20=>v=.bool false
  | 21=>v=.bool false
  | _=>w.heap[G]? = some (.cells #[.slice a1 n1 c1,.int .i64 x.num,.int .i64 x.base,.int .i64 x.tm,.int .i64 x.next,.int .i64 x.scope,.bool x.ind,.slice a2 n2 c2,.slice a3 n3 c3] 38 (0,0))
theorem enB_stb (a1:Option Addr)(n1 c1:Nat)(a2:Option Addr)(n2 c2:Nat)(a3:Option Addr)(n3 c3:Nat)(x:CP)(cq:Bool)(G B:Nat)(k:Nat)(hk:k<23):StB ((enB a1 n1 c1 a2 n2 c2 a3 n3 c3 x cq G (B)).fact k):=by
 match k,hk with
 | 0,_=>exact fun _ _ _ h _=>h
 | 1,_=>exact fun _ _ _ h _=>h
 | 2,_=>exact fun _ _ _ h _=>h
 | 3,_=>exact fun _ _ _ h _=>h
 | 4,_=>exact fun _ _ _ h _=>h
 | 5,_=>exact fun _ _ _ h _=>h
 | 6,_=>exact fun _ _ _ h _=>h
 | 7,_=>exact fun _ _ _ h _=>h
 | 8,_=>exact fun _ _ _ h _=>h
 | 9,_=>exact fun _ _ _ h _=>h
 | 10,_=>exact fun _ _ _ h _=>h
 | 11,_=>exact fun _ _ _ h _=>h
 | 12,_=>exact fun _ _ _ h _=>h
 | 13,_=>exact fun _ _ _ h _=>h
 | 14,_=>exact fun _ _ _ h _=>h
 | 15,_=>exact fun _ _ _ h _=>h
 | 16,_=>exact fun _ _ _ h _=>h
 | 17,_=>exact fun _ _ _ h _=>h
 | 18,_=>exact fun _ _ _ h _=>h
 | 19,_=>exact fun _ _ _ h _=>h
 | 20,_=>exact fun _ _ _ h _=>h
 | 21,_=>exact fun _ _ _ h _=>h
 | 22,_=>exact fun _ _ _ q_0 hb=>below_kept q_0 hb
 | k+23,hk=>omega
def enC (a1:Option Addr)(n1 c1:Nat)(a2:Option Addr)(n2 c2:Nat)(a3:Option Addr)(n3 c3:Nat)(x:CP)(cq:Bool)(G B:Nat):RSpec where
 m:=22
 n:=23
 slots:=[3,4,5,6,7,8,9,10,11,12,13,14,15,16,17,18,19,20,21,22,23,2,100022]
 kills:=[[],[],[],[],[],[],[],[],[],[],[],[],[],[],[],[],[],[],[],[],[],[],[]]
 pres:=[[],[],[],[],[],[],[],[],[],[],[],[],[],[],[],[],[],[],[],[],[],[],[]]
 fact:=fun k v w=>match k with
  | 0=>v=.pointer (some ⟨G,7,none⟩)
  | 1=>v=.slice a2 n2 c2
  | 2=>v=.int .i64 n2
  | 3=>v=.bool true
  | 4=>v=.bool true
  | 5=>v=.pointer (some ⟨G,7,none⟩)
  | 6=>v=.slice a2 n2 c2
  | 7=>v=.agg #[.slice a1 n1 c1,.int .i64 x.num,.int .i64 x.base,.int .i64 x.tm,.int .i64 x.next,.int .i64 x.scope,.bool x.ind,.slice a2 n2 c2,.slice a3 n3 c3]
  | 8=>v=.func (Fn.func 103) #[.agg #[.slice a1 n1 c1,.int .i64 x.num,.int .i64 x.base,.int .i64 x.tm,.int .i64 x.next,.int .i64 x.scope,.bool x.ind,.slice a2 n2 c2,.slice a3 n3 c3]] #[]
  | 9=>v=.bool true
  | 10=>v=.bool true
  | 11=>v=.bool true
  | 12=>v=.pointer (some ⟨G,7,none⟩)
  | 13=>v=.slice a2 n2 c2
  | 14=>∃ gb,v=.map (some gb)∧MpO gb n2 (Sn x.ents n2) w
  | 15=>v=.int .i64 (Maps.size (Sn x.ents n2))
  | 16=>v=.pointer (some ⟨G,7,none⟩)
  | 17=>v=.slice a2 n2 c2
  | 18=>v=.int .i64 n2
  | 19=>v=.bool cq
  | 20=>v=.bool cq
  | 21=>v=.bool cq
  | _=>w.heap[G]? = some (.cells #[.slice a1 n1 c1,.int .i64 x.num,.int .i64 x.base,.int .i64 x.tm,.int .i64 x.next,.int .i64 x.scope,.bool x.ind,.slice a2 n2 c2,.slice a3 n3 c3] 38 (0,0))
theorem enC_stb (a1:Option Addr)(n1 c1:Nat)(a2:Option Addr)(n2 c2:Nat)(a3:Option Addr)(n3 c3:Nat)(x:CP)(cq:Bool)(G B:Nat)(k:Nat)(hk:k<23):StB ((enC a1 n1 c1 a2 n2 c2 a3 n3 c3 x cq G (B)).fact k):=by
 match k,hk with
 | 0,_=>exact fun _ _ _ h _=>h
 | 1,_=>exact fun _ _ _ h _=>h
 | 2,_=>exact fun _ _ _ h _=>h
 | 3,_=>exact fun _ _ _ h _=>h
 | 4,_=>exact fun _ _ _ h _=>h
 | 5,_=>exact fun _ _ _ h _=>h
 | 6,_=>exact fun _ _ _ h _=>h
 | 7,_=>exact fun _ _ _ h _=>h
 | 8,_=>exact fun _ _ _ h _=>h
 | 9,_=>exact fun _ _ _ h _=>h
 | 10,_=>exact fun _ _ _ h _=>h
 | 11,_=>exact fun _ _ _ h _=>h
 | 12,_=>exact fun _ _ _ h _=>h
 | 13,_=>exact fun _ _ _ h _=>h
 | 14,_=>exact fun _ _ _ ⟨gb,hv,q_0⟩ hb=>⟨gb,hv,q_0.kept hb⟩
 | 15,_=>exact fun _ _ _ h _=>h
 | 16,_=>exact fun _ _ _ h _=>h
 | 17,_=>exact fun _ _ _ h _=>h
 | 18,_=>exact fun _ _ _ h _=>h
 | 19,_=>exact fun _ _ _ h _=>h
 | 20,_=>exact fun _ _ _ h _=>h
 | 21,_=>exact fun _ _ _ h _=>h
 | 22,_=>exact fun _ _ _ q_0 hb=>below_kept q_0 hb
 | k+23,hk=>omega
theorem entriesOk_any (a1 : Option Addr) (n1 c1 : Nat) (a2 : Option Addr) (n2 c2 : Nat) (a3 : Option Addr) (n3 c3 : Nat) (x : CP) (w : World) (htab : Lib.TabIs Tryz.prog w "internal/strconv.uint64pow10" .u64 Lib.pow10Tab) (h : Gns w a2 n2 x.ents) (hz : ∀ k, k < n2 → GpOk (x.ents.getD k default)) (hb : -1 ≤ x.base) (hs0 : 2 ≤ x.scope) (hs1 : x.scope ≤ 126) (ht : timeP x.tm) :
  Calls Tryz.prog 63 #[crv a1 n1 c1 a2 n2 c2 a3 n3 c3 x] w (Says (n2≤60∧(∀ k,k<n2→entP x (x.ents.getD k default))∧Maps.size (Sn x.ents n2)=n2) w):=by
 have hev:∀ W,Below w.heap.size w W→Calls Tryz.prog 102 #[.slice a2 n2 c2,.func (Fn.func 103) #[crv a1 n1 c1 a2 n2 c2 a3 n3 c3 x] #[]] W (Says (∀ k,k<n2→entP x (x.ents.getD k default)) W):=fun W hW=>everyGone_any (crv a1 n1 c1 a2 n2 c2 a3 n3 c3 x) (entP x) a2 n2 c2 x.ents W (h.kept hW) hz (fun W2 an nn cn y hp hq=>entryOk_any a1 n1 c1 a2 n2 c2 a3 n3 c3 x an nn cn y W2 hp hq hb hs0 hs1 ht)
 have hbk:(∀ k,k<n2→entP x (x.ents.getD k default))→n2≤60→∀ W,Below w.heap.size w W→Calls Tryz.prog 104 #[.slice a2 n2 c2] W fun e w'=>∃ gb,e=.returned (.map (some gb))∧MpO gb n2 (Sn x.ents n2) w'∧Below W.heap.size W w':=fun he hn W hW=>(byKey_any a2 n2 c2 x.ents W (Lib.tabBelow_of_tabIs htab W hW) (h.kept hW) (by omega) (fun k hk=>⟨entP_name (he k hk),WalkArith.wf_i64 (by have:=(he k hk).1; omega)⟩)).mono (fun e w' q=>⟨_,q.1,q.2.1,q.2.2⟩)
 unfold crv at hev ⊢
 obtain ⟨w0,hw0⟩:∃ w0,w0=w.alloc (.cells #[.slice a1 n1 c1,.int .i64 x.num,.int .i64 x.base,.int .i64 x.tm,.int .i64 x.next,.int .i64 x.scope,.bool x.ind,.slice a2 n2 c2,.slice a3 n3 c3] 38):=⟨_,rfl⟩
 have hB0:Below w.heap.size w w0:=by rw [hw0]; exact (Below.refl _ _).alloc (Nat.le_refl _) _
 have HH0:Hid (w0.heap[w.heap.size]? = some (.cells #[.slice a1 n1 c1,.int .i64 x.num,.int .i64 x.base,.int .i64 x.tm,.int .i64 x.next,.int .i64 x.scope,.bool x.ind,.slice a2 n2 c2,.slice a3 n3 c3] 38)):=by show _=_; rw [hw0]; exact heap_alloc_new w _
 have HW:Hid (_=_):=hw0
 clear hw0 htab h hz hb hs0 hs1 ht
 by_cases h60:n2≤60
 case neg =>
  have HN:Hid (¬ (n2≤60∧(∀ k,k<n2→entP x (x.ents.getD k default))∧Maps.size (Sn x.ents n2)=n2)):=fun q=>h60 q.1
  have HLE60:Hid (decide ((n2:Int)≤60)=false):=decide_eq_false (by omega)
  obtain ⟨cq,hcq⟩:∃ cq:Bool,cq=true:=⟨_,rfl⟩
  clear hev hbk h60 hcq
  have HBB:w0.heap.size≤w0.heap.size:=Nat.le_refl _
  go_enter Tryz.func63,Tryz.ntmps63
  go_upto_region 1 with fail
  rw [← HW.out]
  clear HW
  refine wp_region_rk (enA a1 n1 c1 a2 n2 c2 a3 n3 c3 x cq w.heap.size (w0.heap.size)) [2,3,4,5,6,7,8,9,10,11,12,13,14,15,16,17,18,19,20,21,22,23] (w0.heap.size) (fun a0=>a0.tmps.size=24∧aT a0 1=.pointer (some ⟨w.heap.size,0,none⟩)) (by kernel_rfl) rfl (by kernel_rfl) rfl ⟨rfl,rfl⟩ (enA_stb a1 n1 c1 a2 n2 c2 a3 n3 c3 x cq w.heap.size (w0.heap.size)) ?_ ?_ ?_
  ·intro k hk hk2
   match k,hk,hk2 with
   | 22,_,_=>exact HH0.out
   | 0,hk,_=>exact absurd hk (by show ¬ (22≤0); omega)
   | 1,hk,_=>exact absurd hk (by show ¬ (22≤1); omega)
   | 2,hk,_=>exact absurd hk (by show ¬ (22≤2); omega)
   | 3,hk,_=>exact absurd hk (by show ¬ (22≤3); omega)
   | 4,hk,_=>exact absurd hk (by show ¬ (22≤4); omega)
   | 5,hk,_=>exact absurd hk (by show ¬ (22≤5); omega)
   | 6,hk,_=>exact absurd hk (by show ¬ (22≤6); omega)
   | 7,hk,_=>exact absurd hk (by show ¬ (22≤7); omega)
   | 8,hk,_=>exact absurd hk (by show ¬ (22≤8); omega)
   | 9,hk,_=>exact absurd hk (by show ¬ (22≤9); omega)
   | 10,hk,_=>exact absurd hk (by show ¬ (22≤10); omega)
   | 11,hk,_=>exact absurd hk (by show ¬ (22≤11); omega)
   | 12,hk,_=>exact absurd hk (by show ¬ (22≤12); omega)
   | 13,hk,_=>exact absurd hk (by show ¬ (22≤13); omega)
   | 14,hk,_=>exact absurd hk (by show ¬ (22≤14); omega)
   | 15,hk,_=>exact absurd hk (by show ¬ (22≤15); omega)
   | 16,hk,_=>exact absurd hk (by show ¬ (22≤16); omega)
   | 17,hk,_=>exact absurd hk (by show ¬ (22≤17); omega)
   | 18,hk,_=>exact absurd hk (by show ¬ (22≤18); omega)
   | 19,hk,_=>exact absurd hk (by show ¬ (22≤19); omega)
   | 20,hk,_=>exact absurd hk (by show ¬ (22≤20); omega)
   | 21,hk,_=>exact absurd hk (by show ¬ (22≤21); omega)
   | k+23,_,hk2=>exact absurd hk2 (by show ¬ (k+23<23); omega)
  ·rintro a0 ⟨hz,g1⟩
   refine StepsRK.cons ?_ (StepsRK.cons ?_ (StepsRK.cons ?_ (StepsRK.cons ?_ (StepsRK.cons ?_ (StepsRK.cons ?_ (StepsRK.cons ?_ (StepsRK.cons ?_ (StepsRK.cons ?_ (StepsRK.cons ?_ (StepsRK.cons ?_ (StepsRK.cons ?_ (StepsRK.cons ?_ (StepsRK.cons ?_ (StepsRK.cons ?_ (StepsRK.cons ?_ (StepsRK.cons ?_ (StepsRK.cons ?_ (StepsRK.cons ?_ (StepsRK.cons ?_ (StepsRK.cons ?_ (StepsRK.cons ?_ (StepsRK.nil))))))))))))))))))))))
   ·intro lQ b W hI hUN hED KQ hKQ
    refine rk_plain rfl ?_
    exact opw_field 38 1 7 rfl _ ((hI.fr.same 1 (by decide)).trans g1) _ (by kernel_rfl) (hKQ.out _ _ (hI.put 0 3 rfl rfl (by rw [hz]; decide) rfl hUN rfl HBB (enA_stb a1 n1 c1 a2 n2 c2 a3 n3 c3 x cq w.heap.size (w0.heap.size)) (Below.refl _ _) rfl))
   ·intro lQ b W hI hUN hED KQ hKQ
    refine rk_plain rfl ?_
    have f:=hI.got 0 (od rfl) (edge hED 0 (by kernel_rfl)) rfl
    have hg:=(hI.vot 22 (od rfl) (od rfl) rfl)
    have hc:W.cell? ⟨w.heap.size,7,none⟩=some (.slice a2 n2 c2):=qk hg rfl
    exact opw_load1 36 3 rfl _ f _ (by simp [Instr.loadAt,go_sem,hc]) (hKQ.out _ _ (hI.put 1 4 rfl rfl (by rw [hz]; decide) rfl hUN rfl HBB (enA_stb a1 n1 c1 a2 n2 c2 a3 n3 c3 x cq w.heap.size (w0.heap.size)) (Below.refl _ _) rfl))
   ·intro lQ b W hI hUN hED KQ hKQ
    refine rk_plain rfl ?_
    have f:aT b 4=.slice a2 n2 c2:=hI.got 1 (od rfl) (edge hED 1 (by kernel_rfl)) rfl
    exact opw_len 4 _ _ rfl Tryz.underlying36 _ _ _ f (hKQ.out _ _ (hI.put 2 5 rfl rfl (by rw [hz]; decide) rfl hUN rfl HBB (enA_stb a1 n1 c1 a2 n2 c2 a3 n3 c3 x cq w.heap.size (w0.heap.size)) (Below.refl _ _) rfl))
   ·intro lQ b W hI hUN hED KQ hKQ
    refine rk_plain rfl ?_
    have f:aT b 5=.int .i64 n2:=hI.got 2 (od rfl) (edge hED 2 (by kernel_rfl)) rfl
    refine opw_leqc _ _ 5 60 rfl _ f ?_
    rw [HLE60.out]
    exact hKQ.out _ _ (hI.put 3 6 rfl rfl (by rw [hz]; decide) rfl hUN rfl HBB (enA_stb a1 n1 c1 a2 n2 c2 a3 n3 c3 x cq w.heap.size (w0.heap.size)) (Below.refl _ _) rfl)
   ·intro lQ b W hI hUN hED KQ hKQ
    refine rk_plain rfl ?_
    have f:=hI.got 3 (od rfl) (edge hED 3 (by kernel_rfl)) rfl
    exact opw_move 6 rfl (hKQ.out _ _ (hI.put 4 7 rfl rfl (by rw [hz]; decide) rfl hUN rfl HBB (enA_stb a1 n1 c1 a2 n2 c2 a3 n3 c3 x cq w.heap.size (w0.heap.size)) (Below.refl _ _) f))
   ·intro lQ b W hI hUN hED KQ hKQ
    exact rk_skip 4 true 7 (.bool false) rfl rfl (hI.got 4 (od rfl) (edge hED 4 (by kernel_rfl)) rfl) rfl (hKQ.out _ _ (hI.put 5 8 rfl rfl (by rw [hz]; decide) rfl hUN rfl HBB (enA_stb a1 n1 c1 a2 n2 c2 a3 n3 c3 x cq w.heap.size (w0.heap.size)) (Below.refl _ _) rfl))
   ·intro lQ b W hI hUN hED KQ hKQ
    exact rk_skip 4 true 7 (.bool false) rfl rfl (hI.got 4 (od rfl) (edge hED 4 (by kernel_rfl)) rfl) rfl (hKQ.out _ _ (hI.put 6 9 rfl rfl (by rw [hz]; decide) rfl hUN rfl HBB (enA_stb a1 n1 c1 a2 n2 c2 a3 n3 c3 x cq w.heap.size (w0.heap.size)) (Below.refl _ _) rfl))
   ·intro lQ b W hI hUN hED KQ hKQ
    exact rk_skip 4 true 7 (.bool false) rfl rfl (hI.got 4 (od rfl) (edge hED 4 (by kernel_rfl)) rfl) rfl (hKQ.out _ _ (hI.put 7 10 rfl rfl (by rw [hz]; decide) rfl hUN rfl HBB (enA_stb a1 n1 c1 a2 n2 c2 a3 n3 c3 x cq w.heap.size (w0.heap.size)) (Below.refl _ _) rfl))
   ·intro lQ b W hI hUN hED KQ hKQ
    exact rk_skip 4 true 7 (.bool false) rfl rfl (hI.got 4 (od rfl) (edge hED 4 (by kernel_rfl)) rfl) rfl (hKQ.out _ _ (hI.put 8 11 rfl rfl (by rw [hz]; decide) rfl hUN rfl HBB (enA_stb a1 n1 c1 a2 n2 c2 a3 n3 c3 x cq w.heap.size (w0.heap.size)) (Below.refl _ _) rfl))
   ·intro lQ b W hI hUN hED KQ hKQ
    exact rk_skip 4 true 7 (.bool false) rfl rfl (hI.got 4 (od rfl) (edge hED 4 (by kernel_rfl)) rfl) rfl (hKQ.out _ _ (hI.put 9 12 rfl rfl (by rw [hz]; decide) rfl hUN rfl HBB (enA_stb a1 n1 c1 a2 n2 c2 a3 n3 c3 x cq w.heap.size (w0.heap.size)) (Below.refl _ _) rfl))
   ·intro lQ b W hI hUN hED KQ hKQ
    refine rk_plain rfl ?_
    have fc:aT b 7=.bool false:=hI.got 4 (od rfl) (edge hED 4 (by kernel_rfl)) rfl
    exact opw_pick_f 7 _ _ rfl fc _ rfl (hKQ.out _ _ (hI.put 10 13 rfl rfl (by rw [hz]; decide) rfl hUN rfl HBB (enA_stb a1 n1 c1 a2 n2 c2 a3 n3 c3 x cq w.heap.size (w0.heap.size)) (Below.refl _ _) rfl))
   ·intro lQ b W hI hUN hED KQ hKQ
    refine rk_plain rfl ?_
    have f:=hI.got 10 (od rfl) (edge hED 10 (by kernel_rfl)) rfl
    exact opw_move 13 rfl (hKQ.out _ _ (hI.put 11 14 rfl rfl (by rw [hz]; decide) rfl hUN rfl HBB (enA_stb a1 n1 c1 a2 n2 c2 a3 n3 c3 x cq w.heap.size (w0.heap.size)) (Below.refl _ _) f))
   ·intro lQ b W hI hUN hED KQ hKQ
    exact rk_skip 11 true 14 (.bool false) rfl rfl (hI.got 11 (od rfl) (edge hED 11 (by kernel_rfl)) rfl) rfl (hKQ.out _ _ (hI.put 12 15 rfl rfl (by rw [hz]; decide) rfl hUN rfl HBB (enA_stb a1 n1 c1 a2 n2 c2 a3 n3 c3 x cq w.heap.size (w0.heap.size)) (Below.refl _ _) rfl))
   ·intro lQ b W hI hUN hED KQ hKQ
    exact rk_skip 11 true 14 (.bool false) rfl rfl (hI.got 11 (od rfl) (edge hED 11 (by kernel_rfl)) rfl) rfl (hKQ.out _ _ (hI.put 13 16 rfl rfl (by rw [hz]; decide) rfl hUN rfl HBB (enA_stb a1 n1 c1 a2 n2 c2 a3 n3 c3 x cq w.heap.size (w0.heap.size)) (Below.refl _ _) rfl))
   ·intro lQ b W hI hUN hED KQ hKQ
    exact rk_skip 11 true 14 (.bool false) rfl rfl (hI.got 11 (od rfl) (edge hED 11 (by kernel_rfl)) rfl) rfl (hKQ.out _ _ (hI.put 14 17 rfl rfl (by rw [hz]; decide) rfl hUN rfl HBB (enA_stb a1 n1 c1 a2 n2 c2 a3 n3 c3 x cq w.heap.size (w0.heap.size)) (Below.refl _ _) rfl))
   ·intro lQ b W hI hUN hED KQ hKQ
    exact rk_skip 11 true 14 (.bool false) rfl rfl (hI.got 11 (od rfl) (edge hED 11 (by kernel_rfl)) rfl) rfl (hKQ.out _ _ (hI.put 15 18 rfl rfl (by rw [hz]; decide) rfl hUN rfl HBB (enA_stb a1 n1 c1 a2 n2 c2 a3 n3 c3 x cq w.heap.size (w0.heap.size)) (Below.refl _ _) rfl))
   ·intro lQ b W hI hUN hED KQ hKQ
    exact rk_skip 11 true 14 (.bool false) rfl rfl (hI.got 11 (od rfl) (edge hED 11 (by kernel_rfl)) rfl) rfl (hKQ.out _ _ (hI.put 16 19 rfl rfl (by rw [hz]; decide) rfl hUN rfl HBB (enA_stb a1 n1 c1 a2 n2 c2 a3 n3 c3 x cq w.heap.size (w0.heap.size)) (Below.refl _ _) rfl))
   ·intro lQ b W hI hUN hED KQ hKQ
    exact rk_skip 11 true 14 (.bool false) rfl rfl (hI.got 11 (od rfl) (edge hED 11 (by kernel_rfl)) rfl) rfl (hKQ.out _ _ (hI.put 17 20 rfl rfl (by rw [hz]; decide) rfl hUN rfl HBB (enA_stb a1 n1 c1 a2 n2 c2 a3 n3 c3 x cq w.heap.size (w0.heap.size)) (Below.refl _ _) rfl))
   ·intro lQ b W hI hUN hED KQ hKQ
    exact rk_skip 11 true 14 (.bool false) rfl rfl (hI.got 11 (od rfl) (edge hED 11 (by kernel_rfl)) rfl) rfl (hKQ.out _ _ (hI.put 18 21 rfl rfl (by rw [hz]; decide) rfl hUN rfl HBB (enA_stb a1 n1 c1 a2 n2 c2 a3 n3 c3 x cq w.heap.size (w0.heap.size)) (Below.refl _ _) rfl))
   ·intro lQ b W hI hUN hED KQ hKQ
    exact rk_skip 11 true 14 (.bool false) rfl rfl (hI.got 11 (od rfl) (edge hED 11 (by kernel_rfl)) rfl) rfl (hKQ.out _ _ (hI.put 19 22 rfl rfl (by rw [hz]; decide) rfl hUN rfl HBB (enA_stb a1 n1 c1 a2 n2 c2 a3 n3 c3 x cq w.heap.size (w0.heap.size)) (Below.refl _ _) rfl))
   ·intro lQ b W hI hUN hED KQ hKQ
    refine rk_plain rfl ?_
    have fc:aT b 14=.bool false:=hI.got 11 (od rfl) (edge hED 11 (by kernel_rfl)) rfl
    exact opw_pick_f 14 _ _ rfl fc _ rfl (hKQ.out _ _ (hI.put 20 23 rfl rfl (by rw [hz]; decide) rfl hUN rfl HBB (enA_stb a1 n1 c1 a2 n2 c2 a3 n3 c3 x cq w.heap.size (w0.heap.size)) (Below.refl _ _) rfl))
   ·intro lQ b W hI hUN hED KQ hKQ
    refine rk_plain rfl ?_
    have f:=hI.got 20 (od rfl) (edge hED 20 (by kernel_rfl)) rfl
    exact opw_assign 23 rfl (hKQ.out _ _ (hI.put 21 2 rfl rfl (by rw [hz]; decide) rfl hUN rfl HBB (enA_stb a1 n1 c1 a2 n2 c2 a3 n3 c3 x cq w.heap.size (w0.heap.size)) (Below.refl _ _) f))
  ·intro b W hf hb F
   have e2:aT b 2=.bool false:=F 21 (od rfl) rfl
   rw [hf.eq]
   simp only [puts,Act.put,List.setIfInBounds_toArray,List.set_cons_zero,List.set_cons_succ,e2]
   clear hf F e2
   generalize aT b=AT
   clear b
   go_wp2
   go_ret
   exact says_f HN.out (hB0.trans (hb.mono hB0.size))
 have HLE60:Hid (decide ((n2:Int)≤60)=true):=decide_eq_true (by omega)
 by_cases hall:∀ k,k<n2→entP x (x.ents.getD k default)
 case neg =>
  have HN:Hid (¬ (n2≤60∧(∀ k,k<n2→entP x (x.ents.getD k default))∧Maps.size (Sn x.ents n2)=n2)):=fun q=>hall q.2.1
  have HEV:Hid (∀ W,Below w0.heap.size w0 W→Calls Tryz.prog 102 #[.slice a2 n2 c2,.func (Fn.func 103) #[.agg #[.slice a1 n1 c1,.int .i64 x.num,.int .i64 x.base,.int .i64 x.tm,.int .i64 x.next,.int .i64 x.scope,.bool x.ind,.slice a2 n2 c2,.slice a3 n3 c3]] #[]] W fun e w'=>e=.returned (.bool false)∧Below W.heap.size W w'):=fun W hW=>(hev W (hB0.trans (hW.mono hB0.size))).mono (fun e w' q=>by
   obtain ⟨v,e1,e2,e3⟩:=q
   cases v with
   | false=>exact ⟨e1,e3⟩
   | true=>exact absurd (e2.out.1 rfl) hall)
  obtain ⟨cq,hcq⟩:∃ cq:Bool,cq=true:=⟨_,rfl⟩
  clear hev hbk h60 hall hcq
  have HBB:w0.heap.size≤w0.heap.size:=Nat.le_refl _
  go_enter Tryz.func63,Tryz.ntmps63
  go_upto_region 1 with fail
  rw [← HW.out]
  clear HW
  refine wp_region_rk (enB a1 n1 c1 a2 n2 c2 a3 n3 c3 x cq w.heap.size (w0.heap.size)) [2,3,4,5,6,7,8,9,10,11,12,13,14,15,16,17,18,19,20,21,22,23] (w0.heap.size) (fun a0=>a0.tmps.size=24∧aT a0 1=.pointer (some ⟨w.heap.size,0,none⟩)) (by kernel_rfl) rfl (by kernel_rfl) rfl ⟨rfl,rfl⟩ (enB_stb a1 n1 c1 a2 n2 c2 a3 n3 c3 x cq w.heap.size (w0.heap.size)) ?_ ?_ ?_
  ·intro k hk hk2
   match k,hk,hk2 with
   | 22,_,_=>exact HH0.out
   | 0,hk,_=>exact absurd hk (by show ¬ (22≤0); omega)
   | 1,hk,_=>exact absurd hk (by show ¬ (22≤1); omega)
   | 2,hk,_=>exact absurd hk (by show ¬ (22≤2); omega)
   | 3,hk,_=>exact absurd hk (by show ¬ (22≤3); omega)
   | 4,hk,_=>exact absurd hk (by show ¬ (22≤4); omega)
   | 5,hk,_=>exact absurd hk (by show ¬ (22≤5); omega)
   | 6,hk,_=>exact absurd hk (by show ¬ (22≤6); omega)
   | 7,hk,_=>exact absurd hk (by show ¬ (22≤7); omega)
   | 8,hk,_=>exact absurd hk (by show ¬ (22≤8); omega)
   | 9,hk,_=>exact absurd hk (by show ¬ (22≤9); omega)
   | 10,hk,_=>exact absurd hk (by show ¬ (22≤10); omega)
   | 11,hk,_=>exact absurd hk (by show ¬ (22≤11); omega)
   | 12,hk,_=>exact absurd hk (by show ¬ (22≤12); omega)
   | 13,hk,_=>exact absurd hk (by show ¬ (22≤13); omega)
   | 14,hk,_=>exact absurd hk (by show ¬ (22≤14); omega)
   | 15,hk,_=>exact absurd hk (by show ¬ (22≤15); omega)
   | 16,hk,_=>exact absurd hk (by show ¬ (22≤16); omega)
   | 17,hk,_=>exact absurd hk (by show ¬ (22≤17); omega)
   | 18,hk,_=>exact absurd hk (by show ¬ (22≤18); omega)
   | 19,hk,_=>exact absurd hk (by show ¬ (22≤19); omega)
   | 20,hk,_=>exact absurd hk (by show ¬ (22≤20); omega)
   | 21,hk,_=>exact absurd hk (by show ¬ (22≤21); omega)
   | k+23,_,hk2=>exact absurd hk2 (by show ¬ (k+23<23); omega)
  ·rintro a0 ⟨hz,g1⟩
   refine StepsRK.cons ?_ (StepsRK.cons ?_ (StepsRK.cons ?_ (StepsRK.cons ?_ (StepsRK.cons ?_ (StepsRK.cons ?_ (StepsRK.cons ?_ (StepsRK.cons ?_ (StepsRK.cons ?_ (StepsRK.cons ?_ (StepsRK.cons ?_ (StepsRK.cons ?_ (StepsRK.cons ?_ (StepsRK.cons ?_ (StepsRK.cons ?_ (StepsRK.cons ?_ (StepsRK.cons ?_ (StepsRK.cons ?_ (StepsRK.cons ?_ (StepsRK.cons ?_ (StepsRK.cons ?_ (StepsRK.cons ?_ (StepsRK.nil))))))))))))))))))))))
   ·intro lQ b W hI hUN hED KQ hKQ
    refine rk_plain rfl ?_
    exact opw_field 38 1 7 rfl _ ((hI.fr.same 1 (by decide)).trans g1) _ (by kernel_rfl) (hKQ.out _ _ (hI.put 0 3 rfl rfl (by rw [hz]; decide) rfl hUN rfl HBB (enB_stb a1 n1 c1 a2 n2 c2 a3 n3 c3 x cq w.heap.size (w0.heap.size)) (Below.refl _ _) rfl))
   ·intro lQ b W hI hUN hED KQ hKQ
    refine rk_plain rfl ?_
    have f:=hI.got 0 (od rfl) (edge hED 0 (by kernel_rfl)) rfl
    have hg:=(hI.vot 22 (od rfl) (od rfl) rfl)
    have hc:W.cell? ⟨w.heap.size,7,none⟩=some (.slice a2 n2 c2):=qk hg rfl
    exact opw_load1 36 3 rfl _ f _ (by simp [Instr.loadAt,go_sem,hc]) (hKQ.out _ _ (hI.put 1 4 rfl rfl (by rw [hz]; decide) rfl hUN rfl HBB (enB_stb a1 n1 c1 a2 n2 c2 a3 n3 c3 x cq w.heap.size (w0.heap.size)) (Below.refl _ _) rfl))
   ·intro lQ b W hI hUN hED KQ hKQ
    refine rk_plain rfl ?_
    have f:aT b 4=.slice a2 n2 c2:=hI.got 1 (od rfl) (edge hED 1 (by kernel_rfl)) rfl
    exact opw_len 4 _ _ rfl Tryz.underlying36 _ _ _ f (hKQ.out _ _ (hI.put 2 5 rfl rfl (by rw [hz]; decide) rfl hUN rfl HBB (enB_stb a1 n1 c1 a2 n2 c2 a3 n3 c3 x cq w.heap.size (w0.heap.size)) (Below.refl _ _) rfl))
   ·intro lQ b W hI hUN hED KQ hKQ
    refine rk_plain rfl ?_
    have f:aT b 5=.int .i64 n2:=hI.got 2 (od rfl) (edge hED 2 (by kernel_rfl)) rfl
    refine opw_leqc _ _ 5 60 rfl _ f ?_
    rw [HLE60.out]
    exact hKQ.out _ _ (hI.put 3 6 rfl rfl (by rw [hz]; decide) rfl hUN rfl HBB (enB_stb a1 n1 c1 a2 n2 c2 a3 n3 c3 x cq w.heap.size (w0.heap.size)) (Below.refl _ _) rfl)
   ·intro lQ b W hI hUN hED KQ hKQ
    refine rk_plain rfl ?_
    have f:=hI.got 3 (od rfl) (edge hED 3 (by kernel_rfl)) rfl
    exact opw_move 6 rfl (hKQ.out _ _ (hI.put 4 7 rfl rfl (by rw [hz]; decide) rfl hUN rfl HBB (enB_stb a1 n1 c1 a2 n2 c2 a3 n3 c3 x cq w.heap.size (w0.heap.size)) (Below.refl _ _) f))
   ·intro lQ b W hI hUN hED KQ hKQ
    refine rk_take 4 true 7 rfl rfl (hI.got 4 (od rfl) (edge hED 4 (by kernel_rfl)) rfl) ?_
    exact opw_field 38 1 7 rfl _ ((hI.fr.same 1 (by decide)).trans g1) _ (by kernel_rfl) (hKQ.out _ _ (hI.put 5 8 rfl rfl (by rw [hz]; decide) rfl hUN rfl HBB (enB_stb a1 n1 c1 a2 n2 c2 a3 n3 c3 x cq w.heap.size (w0.heap.size)) (Below.refl _ _) rfl))
   ·intro lQ b W hI hUN hED KQ hKQ
    refine rk_take 4 true 7 rfl rfl (hI.got 4 (od rfl) (edge hED 4 (by kernel_rfl)) rfl) ?_
    have f:=hI.got 5 (od rfl) (edge hED 5 (by kernel_rfl)) rfl
    have hg:=(hI.vot 22 (od rfl) (od rfl) rfl)
    have hc:W.cell? ⟨w.heap.size,7,none⟩=some (.slice a2 n2 c2):=qk hg rfl
    exact opw_load1 36 8 rfl _ f _ (by simp [Instr.loadAt,go_sem,hc]) (hKQ.out _ _ (hI.put 6 9 rfl rfl (by rw [hz]; decide) rfl hUN rfl HBB (enB_stb a1 n1 c1 a2 n2 c2 a3 n3 c3 x cq w.heap.size (w0.heap.size)) (Below.refl _ _) rfl))
   ·intro lQ b W hI hUN hED KQ hKQ
    refine rk_take 4 true 7 rfl rfl (hI.got 4 (od rfl) (edge hED 4 (by kernel_rfl)) rfl) ?_
    have hg:=(hI.vot 22 (od rfl) (od rfl) rfl)
    refine wp_load_row 38 _ rfl (w.heap.size) ((hI.fr.same 1 (by decide)).trans g1) 38 #[.slice a1 n1 c1,.int .i64 x.num,.int .i64 x.base,.int .i64 x.tm,.int .i64 x.next,.int .i64 x.scope,.bool x.ind,.slice a2 n2 c2,.slice a3 n3 c3] (0,0) _ hg Tryz.underlying38 rfl (by kernel_rfl) ?_
    exact hKQ.out _ _ (hI.put 7 10 rfl rfl (by rw [hz]; decide) rfl hUN rfl HBB (enB_stb a1 n1 c1 a2 n2 c2 a3 n3 c3 x cq w.heap.size (w0.heap.size)) (Below.refl _ _) rfl)
   ·intro lQ b W hI hUN hED KQ hKQ
    refine rk_take 4 true 7 rfl rfl (hI.got 4 (od rfl) (edge hED 4 (by kernel_rfl)) rfl) ?_
    have f:aT b 10=.agg #[.slice a1 n1 c1,.int .i64 x.num,.int .i64 x.base,.int .i64 x.tm,.int .i64 x.next,.int .i64 x.scope,.bool x.ind,.slice a2 n2 c2,.slice a3 n3 c3]:=hI.got 7 (od rfl) (edge hED 7 (by kernel_rfl)) rfl
    exact opw_makeFunc _ 10 rfl _ f (hKQ.out _ _ (hI.put 8 11 rfl rfl (by rw [hz]; decide) rfl hUN rfl HBB (enB_stb a1 n1 c1 a2 n2 c2 a3 n3 c3 x cq w.heap.size (w0.heap.size)) (Below.refl _ _) rfl))
   ·intro lQ b W hI hUN hED KQ hKQ
    refine rk_take 4 true 7 rfl rfl (hI.got 4 (od rfl) (edge hED 4 (by kernel_rfl)) rfl) ?_
    have f0:=hI.got 6 (od rfl) (edge hED 6 (by kernel_rfl)) rfl
    replace f0:aT b 9=.slice a2 n2 c2:=f0
    have f1:=hI.got 8 (od rfl) (edge hED 8 (by kernel_rfl)) rfl
    replace f1:aT b 11=.func (Fn.func 103) #[.agg #[.slice a1 n1 c1,.int .i64 x.num,.int .i64 x.base,.int .i64 x.tm,.int .i64 x.next,.int .i64 x.scope,.bool x.ind,.slice a2 n2 c2,.slice a3 n3 c3]] #[]:=f1
    refine opw_call 102 #[.tmp 9,.tmp 11] _ _ _ rfl Tryz.func102 (by kernel_rfl) rfl #[.slice a2 n2 c2,.func (Fn.func 103) #[.agg #[.slice a1 n1 c1,.int .i64 x.num,.int .i64 x.base,.int .i64 x.tm,.int .i64 x.next,.int .i64 x.scope,.bool x.ind,.slice a2 n2 c2,.slice a3 n3 c3]] #[]] (by simp [ev,f0,f1]) ?_
    refine (HEV.out W hI.bel).mono ?_
    rintro e W2 ⟨rfl,hb⟩
    exact ⟨_,rfl,hKQ.out _ _ (hI.put 9 12 rfl rfl (by rw [hz]; decide) rfl hUN rfl HBB (enB_stb a1 n1 c1 a2 n2 c2 a3 n3 c3 x cq w.heap.size (w0.heap.size)) hb rfl)⟩
   ·intro lQ b W hI hUN hED KQ hKQ
    refine rk_plain rfl ?_
    have fc:aT b 7=.bool true:=hI.got 4 (od rfl) (edge hED 4 (by kernel_rfl)) rfl
    have f:=hI.got 9 (od rfl) (edge hED 9 (by kernel_rfl)) rfl
    replace f:aT b 12=.bool false:=f
    exact opw_pick_t 7 _ _ rfl fc _ f (hKQ.out _ _ (hI.put 10 13 rfl rfl (by rw [hz]; decide) rfl hUN rfl HBB (enB_stb a1 n1 c1 a2 n2 c2 a3 n3 c3 x cq w.heap.size (w0.heap.size)) (Below.refl _ _) rfl))
   ·intro lQ b W hI hUN hED KQ hKQ
    refine rk_plain rfl ?_
    have f:=hI.got 10 (od rfl) (edge hED 10 (by kernel_rfl)) rfl
    exact opw_move 13 rfl (hKQ.out _ _ (hI.put 11 14 rfl rfl (by rw [hz]; decide) rfl hUN rfl HBB (enB_stb a1 n1 c1 a2 n2 c2 a3 n3 c3 x cq w.heap.size (w0.heap.size)) (Below.refl _ _) f))
   ·intro lQ b W hI hUN hED KQ hKQ
    exact rk_skip 11 true 14 (.bool false) rfl rfl (hI.got 11 (od rfl) (edge hED 11 (by kernel_rfl)) rfl) rfl (hKQ.out _ _ (hI.put 12 15 rfl rfl (by rw [hz]; decide) rfl hUN rfl HBB (enB_stb a1 n1 c1 a2 n2 c2 a3 n3 c3 x cq w.heap.size (w0.heap.size)) (Below.refl _ _) rfl))
   ·intro lQ b W hI hUN hED KQ hKQ
    exact rk_skip 11 true 14 (.bool false) rfl rfl (hI.got 11 (od rfl) (edge hED 11 (by kernel_rfl)) rfl) rfl (hKQ.out _ _ (hI.put 13 16 rfl rfl (by rw [hz]; decide) rfl hUN rfl HBB (enB_stb a1 n1 c1 a2 n2 c2 a3 n3 c3 x cq w.heap.size (w0.heap.size)) (Below.refl _ _) rfl))
   ·intro lQ b W hI hUN hED KQ hKQ
    exact rk_skip 11 true 14 (.bool false) rfl rfl (hI.got 11 (od rfl) (edge hED 11 (by kernel_rfl)) rfl) rfl (hKQ.out _ _ (hI.put 14 17 rfl rfl (by rw [hz]; decide) rfl hUN rfl HBB (enB_stb a1 n1 c1 a2 n2 c2 a3 n3 c3 x cq w.heap.size (w0.heap.size)) (Below.refl _ _) rfl))
   ·intro lQ b W hI hUN hED KQ hKQ
    exact rk_skip 11 true 14 (.bool false) rfl rfl (hI.got 11 (od rfl) (edge hED 11 (by kernel_rfl)) rfl) rfl (hKQ.out _ _ (hI.put 15 18 rfl rfl (by rw [hz]; decide) rfl hUN rfl HBB (enB_stb a1 n1 c1 a2 n2 c2 a3 n3 c3 x cq w.heap.size (w0.heap.size)) (Below.refl _ _) rfl))
   ·intro lQ b W hI hUN hED KQ hKQ
    exact rk_skip 11 true 14 (.bool false) rfl rfl (hI.got 11 (od rfl) (edge hED 11 (by kernel_rfl)) rfl) rfl (hKQ.out _ _ (hI.put 16 19 rfl rfl (by rw [hz]; decide) rfl hUN rfl HBB (enB_stb a1 n1 c1 a2 n2 c2 a3 n3 c3 x cq w.heap.size (w0.heap.size)) (Below.refl _ _) rfl))
   ·intro lQ b W hI hUN hED KQ hKQ
    exact rk_skip 11 true 14 (.bool false) rfl rfl (hI.got 11 (od rfl) (edge hED 11 (by kernel_rfl)) rfl) rfl (hKQ.out _ _ (hI.put 17 20 rfl rfl (by rw [hz]; decide) rfl hUN rfl HBB (enB_stb a1 n1 c1 a2 n2 c2 a3 n3 c3 x cq w.heap.size (w0.heap.size)) (Below.refl _ _) rfl))
   ·intro lQ b W hI hUN hED KQ hKQ
    exact rk_skip 11 true 14 (.bool false) rfl rfl (hI.got 11 (od rfl) (edge hED 11 (by kernel_rfl)) rfl) rfl (hKQ.out _ _ (hI.put 18 21 rfl rfl (by rw [hz]; decide) rfl hUN rfl HBB (enB_stb a1 n1 c1 a2 n2 c2 a3 n3 c3 x cq w.heap.size (w0.heap.size)) (Below.refl _ _) rfl))
   ·intro lQ b W hI hUN hED KQ hKQ
    exact rk_skip 11 true 14 (.bool false) rfl rfl (hI.got 11 (od rfl) (edge hED 11 (by kernel_rfl)) rfl) rfl (hKQ.out _ _ (hI.put 19 22 rfl rfl (by rw [hz]; decide) rfl hUN rfl HBB (enB_stb a1 n1 c1 a2 n2 c2 a3 n3 c3 x cq w.heap.size (w0.heap.size)) (Below.refl _ _) rfl))
   ·intro lQ b W hI hUN hED KQ hKQ
    refine rk_plain rfl ?_
    have fc:aT b 14=.bool false:=hI.got 11 (od rfl) (edge hED 11 (by kernel_rfl)) rfl
    exact opw_pick_f 14 _ _ rfl fc _ rfl (hKQ.out _ _ (hI.put 20 23 rfl rfl (by rw [hz]; decide) rfl hUN rfl HBB (enB_stb a1 n1 c1 a2 n2 c2 a3 n3 c3 x cq w.heap.size (w0.heap.size)) (Below.refl _ _) rfl))
   ·intro lQ b W hI hUN hED KQ hKQ
    refine rk_plain rfl ?_
    have f:=hI.got 20 (od rfl) (edge hED 20 (by kernel_rfl)) rfl
    exact opw_assign 23 rfl (hKQ.out _ _ (hI.put 21 2 rfl rfl (by rw [hz]; decide) rfl hUN rfl HBB (enB_stb a1 n1 c1 a2 n2 c2 a3 n3 c3 x cq w.heap.size (w0.heap.size)) (Below.refl _ _) f))
  ·intro b W hf hb F
   have e2:aT b 2=.bool false:=F 21 (od rfl) rfl
   rw [hf.eq]
   simp only [puts,Act.put,List.setIfInBounds_toArray,List.set_cons_zero,List.set_cons_succ,e2]
   clear hf F e2
   generalize aT b=AT
   clear b
   go_wp2
   go_ret
   exact says_f HN.out (hB0.trans (hb.mono hB0.size))
 have HEV:Hid (∀ W,Below w0.heap.size w0 W→Calls Tryz.prog 102 #[.slice a2 n2 c2,.func (Fn.func 103) #[.agg #[.slice a1 n1 c1,.int .i64 x.num,.int .i64 x.base,.int .i64 x.tm,.int .i64 x.next,.int .i64 x.scope,.bool x.ind,.slice a2 n2 c2,.slice a3 n3 c3]] #[]] W fun e w'=>e=.returned (.bool true)∧Below W.heap.size W w'):=fun W hW=>(hev W (hB0.trans (hW.mono hB0.size))).mono (fun e w' q=>by
  obtain ⟨v,e1,e2,e3⟩:=q
  cases v with
  | true=>exact ⟨e1,e3⟩
  | false=>exact absurd (e2.out.2 hall) (by simp))
 have HBK:Hid (∀ W,Below w0.heap.size w0 W→Calls Tryz.prog 104 #[.slice a2 n2 c2] W fun e w'=>∃ gb,e=.returned (.map (some gb))∧MpO gb n2 (Sn x.ents n2) w'∧Below W.heap.size W w'):=fun W hW=>hbk hall h60 W (hB0.trans (hW.mono hB0.size))
 obtain ⟨cq,hcq⟩:∃ cq:Bool,(((Maps.size (Sn x.ents n2):Nat):Int) == (n2:Int))=cq:=⟨_,rfl⟩
 have HCQ:Hid ((((Maps.size (Sn x.ents n2):Nat):Int) == (n2:Int))=cq):=hcq
 have HIF:Hid (cq=true↔(n2≤60∧(∀ k,k<n2→entP x (x.ents.getD k default))∧Maps.size (Sn x.ents n2)=n2)):=by
  show _↔_
  rw [← hcq,beq_iff_eq]
  exact ⟨fun q=>⟨h60,hall,by omega⟩,fun q=>by have:=q.2.2; omega⟩
 clear hev hbk h60 hall hcq
 have HBB:w0.heap.size≤w0.heap.size:=Nat.le_refl _
 go_enter Tryz.func63,Tryz.ntmps63
 go_upto_region 1 with fail
 rw [← HW.out]
 clear HW
 refine wp_region_rk (enC a1 n1 c1 a2 n2 c2 a3 n3 c3 x cq w.heap.size (w0.heap.size)) [2,3,4,5,6,7,8,9,10,11,12,13,14,15,16,17,18,19,20,21,22,23] (w0.heap.size) (fun a0=>a0.tmps.size=24∧aT a0 1=.pointer (some ⟨w.heap.size,0,none⟩)) (by kernel_rfl) rfl (by kernel_rfl) rfl ⟨rfl,rfl⟩ (enC_stb a1 n1 c1 a2 n2 c2 a3 n3 c3 x cq w.heap.size (w0.heap.size)) ?_ ?_ ?_
 ·intro k hk hk2
  match k,hk,hk2 with
  | 22,_,_=>exact HH0.out
  | 0,hk,_=>exact absurd hk (by show ¬ (22≤0); omega)
  | 1,hk,_=>exact absurd hk (by show ¬ (22≤1); omega)
  | 2,hk,_=>exact absurd hk (by show ¬ (22≤2); omega)
  | 3,hk,_=>exact absurd hk (by show ¬ (22≤3); omega)
  | 4,hk,_=>exact absurd hk (by show ¬ (22≤4); omega)
  | 5,hk,_=>exact absurd hk (by show ¬ (22≤5); omega)
  | 6,hk,_=>exact absurd hk (by show ¬ (22≤6); omega)
  | 7,hk,_=>exact absurd hk (by show ¬ (22≤7); omega)
  | 8,hk,_=>exact absurd hk (by show ¬ (22≤8); omega)
  | 9,hk,_=>exact absurd hk (by show ¬ (22≤9); omega)
  | 10,hk,_=>exact absurd hk (by show ¬ (22≤10); omega)
  | 11,hk,_=>exact absurd hk (by show ¬ (22≤11); omega)
  | 12,hk,_=>exact absurd hk (by show ¬ (22≤12); omega)
  | 13,hk,_=>exact absurd hk (by show ¬ (22≤13); omega)
  | 14,hk,_=>exact absurd hk (by show ¬ (22≤14); omega)
  | 15,hk,_=>exact absurd hk (by show ¬ (22≤15); omega)
  | 16,hk,_=>exact absurd hk (by show ¬ (22≤16); omega)
  | 17,hk,_=>exact absurd hk (by show ¬ (22≤17); omega)
  | 18,hk,_=>exact absurd hk (by show ¬ (22≤18); omega)
  | 19,hk,_=>exact absurd hk (by show ¬ (22≤19); omega)
  | 20,hk,_=>exact absurd hk (by show ¬ (22≤20); omega)
  | 21,hk,_=>exact absurd hk (by show ¬ (22≤21); omega)
  | k+23,_,hk2=>exact absurd hk2 (by show ¬ (k+23<23); omega)
 ·rintro a0 ⟨hz,g1⟩
  refine StepsRK.cons ?_ (StepsRK.cons ?_ (StepsRK.cons ?_ (StepsRK.cons ?_ (StepsRK.cons ?_ (StepsRK.cons ?_ (StepsRK.cons ?_ (StepsRK.cons ?_ (StepsRK.cons ?_ (StepsRK.cons ?_ (StepsRK.cons ?_ (StepsRK.cons ?_ (StepsRK.cons ?_ (StepsRK.cons ?_ (StepsRK.cons ?_ (StepsRK.cons ?_ (StepsRK.cons ?_ (StepsRK.cons ?_ (StepsRK.cons ?_ (StepsRK.cons ?_ (StepsRK.cons ?_ (StepsRK.cons ?_ (StepsRK.nil))))))))))))))))))))))
  ·intro lQ b W hI hUN hED KQ hKQ
   refine rk_plain rfl ?_
   exact opw_field 38 1 7 rfl _ ((hI.fr.same 1 (by decide)).trans g1) _ (by kernel_rfl) (hKQ.out _ _ (hI.put 0 3 rfl rfl (by rw [hz]; decide) rfl hUN rfl HBB (enC_stb a1 n1 c1 a2 n2 c2 a3 n3 c3 x cq w.heap.size (w0.heap.size)) (Below.refl _ _) rfl))
  ·intro lQ b W hI hUN hED KQ hKQ
   refine rk_plain rfl ?_
   have f:=hI.got 0 (od rfl) (edge hED 0 (by kernel_rfl)) rfl
   have hg:=(hI.vot 22 (od rfl) (od rfl) rfl)
   have hc:W.cell? ⟨w.heap.size,7,none⟩=some (.slice a2 n2 c2):=qk hg rfl
   exact opw_load1 36 3 rfl _ f _ (by simp [Instr.loadAt,go_sem,hc]) (hKQ.out _ _ (hI.put 1 4 rfl rfl (by rw [hz]; decide) rfl hUN rfl HBB (enC_stb a1 n1 c1 a2 n2 c2 a3 n3 c3 x cq w.heap.size (w0.heap.size)) (Below.refl _ _) rfl))
  ·intro lQ b W hI hUN hED KQ hKQ
   refine rk_plain rfl ?_
   have f:aT b 4=.slice a2 n2 c2:=hI.got 1 (od rfl) (edge hED 1 (by kernel_rfl)) rfl
   exact opw_len 4 _ _ rfl Tryz.underlying36 _ _ _ f (hKQ.out _ _ (hI.put 2 5 rfl rfl (by rw [hz]; decide) rfl hUN rfl HBB (enC_stb a1 n1 c1 a2 n2 c2 a3 n3 c3 x cq w.heap.size (w0.heap.size)) (Below.refl _ _) rfl))
  ·intro lQ b W hI hUN hED KQ hKQ
   refine rk_plain rfl ?_
   have f:aT b 5=.int .i64 n2:=hI.got 2 (od rfl) (edge hED 2 (by kernel_rfl)) rfl
   refine opw_leqc _ _ 5 60 rfl _ f ?_
   rw [HLE60.out]
   exact hKQ.out _ _ (hI.put 3 6 rfl rfl (by rw [hz]; decide) rfl hUN rfl HBB (enC_stb a1 n1 c1 a2 n2 c2 a3 n3 c3 x cq w.heap.size (w0.heap.size)) (Below.refl _ _) rfl)
  ·intro lQ b W hI hUN hED KQ hKQ
   refine rk_plain rfl ?_
   have f:=hI.got 3 (od rfl) (edge hED 3 (by kernel_rfl)) rfl
   exact opw_move 6 rfl (hKQ.out _ _ (hI.put 4 7 rfl rfl (by rw [hz]; decide) rfl hUN rfl HBB (enC_stb a1 n1 c1 a2 n2 c2 a3 n3 c3 x cq w.heap.size (w0.heap.size)) (Below.refl _ _) f))
  ·intro lQ b W hI hUN hED KQ hKQ
   refine rk_take 4 true 7 rfl rfl (hI.got 4 (od rfl) (edge hED 4 (by kernel_rfl)) rfl) ?_
   exact opw_field 38 1 7 rfl _ ((hI.fr.same 1 (by decide)).trans g1) _ (by kernel_rfl) (hKQ.out _ _ (hI.put 5 8 rfl rfl (by rw [hz]; decide) rfl hUN rfl HBB (enC_stb a1 n1 c1 a2 n2 c2 a3 n3 c3 x cq w.heap.size (w0.heap.size)) (Below.refl _ _) rfl))
  ·intro lQ b W hI hUN hED KQ hKQ
   refine rk_take 4 true 7 rfl rfl (hI.got 4 (od rfl) (edge hED 4 (by kernel_rfl)) rfl) ?_
   have f:=hI.got 5 (od rfl) (edge hED 5 (by kernel_rfl)) rfl
   have hg:=(hI.vot 22 (od rfl) (od rfl) rfl)
   have hc:W.cell? ⟨w.heap.size,7,none⟩=some (.slice a2 n2 c2):=qk hg rfl
   exact opw_load1 36 8 rfl _ f _ (by simp [Instr.loadAt,go_sem,hc]) (hKQ.out _ _ (hI.put 6 9 rfl rfl (by rw [hz]; decide) rfl hUN rfl HBB (enC_stb a1 n1 c1 a2 n2 c2 a3 n3 c3 x cq w.heap.size (w0.heap.size)) (Below.refl _ _) rfl))
  ·intro lQ b W hI hUN hED KQ hKQ
   refine rk_take 4 true 7 rfl rfl (hI.got 4 (od rfl) (edge hED 4 (by kernel_rfl)) rfl) ?_
   have hg:=(hI.vot 22 (od rfl) (od rfl) rfl)
   refine wp_load_row 38 _ rfl (w.heap.size) ((hI.fr.same 1 (by decide)).trans g1) 38 #[.slice a1 n1 c1,.int .i64 x.num,.int .i64 x.base,.int .i64 x.tm,.int .i64 x.next,.int .i64 x.scope,.bool x.ind,.slice a2 n2 c2,.slice a3 n3 c3] (0,0) _ hg Tryz.underlying38 rfl (by kernel_rfl) ?_
   exact hKQ.out _ _ (hI.put 7 10 rfl rfl (by rw [hz]; decide) rfl hUN rfl HBB (enC_stb a1 n1 c1 a2 n2 c2 a3 n3 c3 x cq w.heap.size (w0.heap.size)) (Below.refl _ _) rfl)
  ·intro lQ b W hI hUN hED KQ hKQ
   refine rk_take 4 true 7 rfl rfl (hI.got 4 (od rfl) (edge hED 4 (by kernel_rfl)) rfl) ?_
   have f:aT b 10=.agg #[.slice a1 n1 c1,.int .i64 x.num,.int .i64 x.base,.int .i64 x.tm,.int .i64 x.next,.int .i64 x.scope,.bool x.ind,.slice a2 n2 c2,.slice a3 n3 c3]:=hI.got 7 (od rfl) (edge hED 7 (by kernel_rfl)) rfl
   exact opw_makeFunc _ 10 rfl _ f (hKQ.out _ _ (hI.put 8 11 rfl rfl (by rw [hz]; decide) rfl hUN rfl HBB (enC_stb a1 n1 c1 a2 n2 c2 a3 n3 c3 x cq w.heap.size (w0.heap.size)) (Below.refl _ _) rfl))
  ·intro lQ b W hI hUN hED KQ hKQ
   refine rk_take 4 true 7 rfl rfl (hI.got 4 (od rfl) (edge hED 4 (by kernel_rfl)) rfl) ?_
   have f0:=hI.got 6 (od rfl) (edge hED 6 (by kernel_rfl)) rfl
   replace f0:aT b 9=.slice a2 n2 c2:=f0
   have f1:=hI.got 8 (od rfl) (edge hED 8 (by kernel_rfl)) rfl
   replace f1:aT b 11=.func (Fn.func 103) #[.agg #[.slice a1 n1 c1,.int .i64 x.num,.int .i64 x.base,.int .i64 x.tm,.int .i64 x.next,.int .i64 x.scope,.bool x.ind,.slice a2 n2 c2,.slice a3 n3 c3]] #[]:=f1
   refine opw_call 102 #[.tmp 9,.tmp 11] _ _ _ rfl Tryz.func102 (by kernel_rfl) rfl #[.slice a2 n2 c2,.func (Fn.func 103) #[.agg #[.slice a1 n1 c1,.int .i64 x.num,.int .i64 x.base,.int .i64 x.tm,.int .i64 x.next,.int .i64 x.scope,.bool x.ind,.slice a2 n2 c2,.slice a3 n3 c3]] #[]] (by simp [ev,f0,f1]) ?_
   refine (HEV.out W hI.bel).mono ?_
   rintro e W2 ⟨rfl,hb⟩
   exact ⟨_,rfl,hKQ.out _ _ (hI.put 9 12 rfl rfl (by rw [hz]; decide) rfl hUN rfl HBB (enC_stb a1 n1 c1 a2 n2 c2 a3 n3 c3 x cq w.heap.size (w0.heap.size)) hb rfl)⟩
  ·intro lQ b W hI hUN hED KQ hKQ
   refine rk_plain rfl ?_
   have fc:aT b 7=.bool true:=hI.got 4 (od rfl) (edge hED 4 (by kernel_rfl)) rfl
   have f:=hI.got 9 (od rfl) (edge hED 9 (by kernel_rfl)) rfl
   replace f:aT b 12=.bool true:=f
   exact opw_pick_t 7 _ _ rfl fc _ f (hKQ.out _ _ (hI.put 10 13 rfl rfl (by rw [hz]; decide) rfl hUN rfl HBB (enC_stb a1 n1 c1 a2 n2 c2 a3 n3 c3 x cq w.heap.size (w0.heap.size)) (Below.refl _ _) rfl))
  ·intro lQ b W hI hUN hED KQ hKQ
   refine rk_plain rfl ?_
   have f:=hI.got 10 (od rfl) (edge hED 10 (by kernel_rfl)) rfl
   exact opw_move 13 rfl (hKQ.out _ _ (hI.put 11 14 rfl rfl (by rw [hz]; decide) rfl hUN rfl HBB (enC_stb a1 n1 c1 a2 n2 c2 a3 n3 c3 x cq w.heap.size (w0.heap.size)) (Below.refl _ _) f))
  ·intro lQ b W hI hUN hED KQ hKQ
   refine rk_take 11 true 14 rfl rfl (hI.got 11 (od rfl) (edge hED 11 (by kernel_rfl)) rfl) ?_
   exact opw_field 38 1 7 rfl _ ((hI.fr.same 1 (by decide)).trans g1) _ (by kernel_rfl) (hKQ.out _ _ (hI.put 12 15 rfl rfl (by rw [hz]; decide) rfl hUN rfl HBB (enC_stb a1 n1 c1 a2 n2 c2 a3 n3 c3 x cq w.heap.size (w0.heap.size)) (Below.refl _ _) rfl))
  ·intro lQ b W hI hUN hED KQ hKQ
   refine rk_take 11 true 14 rfl rfl (hI.got 11 (od rfl) (edge hED 11 (by kernel_rfl)) rfl) ?_
   have f:=hI.got 12 (od rfl) (edge hED 12 (by kernel_rfl)) rfl
   have hg:=(hI.vot 22 (od rfl) (od rfl) rfl)
   have hc:W.cell? ⟨w.heap.size,7,none⟩=some (.slice a2 n2 c2):=qk hg rfl
   exact opw_load1 36 15 rfl _ f _ (by simp [Instr.loadAt,go_sem,hc]) (hKQ.out _ _ (hI.put 13 16 rfl rfl (by rw [hz]; decide) rfl hUN rfl HBB (enC_stb a1 n1 c1 a2 n2 c2 a3 n3 c3 x cq w.heap.size (w0.heap.size)) (Below.refl _ _) rfl))
  ·intro lQ b W hI hUN hED KQ hKQ
   refine rk_take 11 true 14 rfl rfl (hI.got 11 (od rfl) (edge hED 11 (by kernel_rfl)) rfl) ?_
   have f0:=hI.got 13 (od rfl) (edge hED 13 (by kernel_rfl)) rfl
   replace f0:aT b 16=.slice a2 n2 c2:=f0
   refine opw_call 104 #[.tmp 16] _ _ _ rfl Tryz.func104 (by kernel_rfl) rfl #[.slice a2 n2 c2] (by simp [ev,f0]) ?_
   refine (HBK.out W hI.bel).mono ?_
   rintro e W2 ⟨gb,rfl,ho,hb⟩
   exact ⟨_,rfl,hKQ.out _ _ (hI.put 14 17 rfl rfl (by rw [hz]; decide) rfl hUN rfl HBB (enC_stb a1 n1 c1 a2 n2 c2 a3 n3 c3 x cq w.heap.size (w0.heap.size)) hb ⟨gb,rfl,ho⟩)⟩
  ·intro lQ b W hI hUN hED KQ hKQ
   refine rk_take 11 true 14 rfl rfl (hI.got 11 (od rfl) (edge hED 11 (by kernel_rfl)) rfl) ?_
   obtain ⟨gb,f,ho⟩:=hI.got 14 (od rfl) (edge hED 14 (by kernel_rfl)) rfl
   replace f:aT b 17=_:=f
   exact opw_maplen 17 _ _ _ rfl Tryz.underlying139 RG gb n2 (Sn x.ents n2) f ho (hKQ.out _ _ (hI.put 15 18 rfl rfl (by rw [hz]; decide) rfl hUN rfl HBB (enC_stb a1 n1 c1 a2 n2 c2 a3 n3 c3 x cq w.heap.size (w0.heap.size)) (Below.refl _ _) rfl))
  ·intro lQ b W hI hUN hED KQ hKQ
   refine rk_take 11 true 14 rfl rfl (hI.got 11 (od rfl) (edge hED 11 (by kernel_rfl)) rfl) ?_
   exact opw_field 38 1 7 rfl _ ((hI.fr.same 1 (by decide)).trans g1) _ (by kernel_rfl) (hKQ.out _ _ (hI.put 16 19 rfl rfl (by rw [hz]; decide) rfl hUN rfl HBB (enC_stb a1 n1 c1 a2 n2 c2 a3 n3 c3 x cq w.heap.size (w0.heap.size)) (Below.refl _ _) rfl))
  ·intro lQ b W hI hUN hED KQ hKQ
   refine rk_take 11 true 14 rfl rfl (hI.got 11 (od rfl) (edge hED 11 (by kernel_rfl)) rfl) ?_
   have f:=hI.got 16 (od rfl) (edge hED 16 (by kernel_rfl)) rfl
   have hg:=(hI.vot 22 (od rfl) (od rfl) rfl)
   have hc:W.cell? ⟨w.heap.size,7,none⟩=some (.slice a2 n2 c2):=qk hg rfl
   exact opw_load1 36 19 rfl _ f _ (by simp [Instr.loadAt,go_sem,hc]) (hKQ.out _ _ (hI.put 17 20 rfl rfl (by rw [hz]; decide) rfl hUN rfl HBB (enC_stb a1 n1 c1 a2 n2 c2 a3 n3 c3 x cq w.heap.size (w0.heap.size)) (Below.refl _ _) rfl))
  ·intro lQ b W hI hUN hED KQ hKQ
   refine rk_take 11 true 14 rfl rfl (hI.got 11 (od rfl) (edge hED 11 (by kernel_rfl)) rfl) ?_
   have f:aT b 20=.slice a2 n2 c2:=hI.got 17 (od rfl) (edge hED 17 (by kernel_rfl)) rfl
   exact opw_len 20 _ _ rfl Tryz.underlying36 _ _ _ f (hKQ.out _ _ (hI.put 18 21 rfl rfl (by rw [hz]; decide) rfl hUN rfl HBB (enC_stb a1 n1 c1 a2 n2 c2 a3 n3 c3 x cq w.heap.size (w0.heap.size)) (Below.refl _ _) rfl))
  ·intro lQ b W hI hUN hED KQ hKQ
   refine rk_take 11 true 14 rfl rfl (hI.got 11 (od rfl) (edge hED 11 (by kernel_rfl)) rfl) ?_
   have f1:aT b 18=.int .i64 (Maps.size (Sn x.ents n2)):=hI.got 15 (od rfl) (edge hED 15 (by kernel_rfl)) rfl
   have f2:aT b 21=.int .i64 n2:=hI.got 18 (od rfl) (edge hED 18 (by kernel_rfl)) rfl
   exact opw_eql _ _ 18 21 rfl .i64 _ _ f1 f2 cq HCQ.out (hKQ.out _ _ (hI.put 19 22 rfl rfl (by rw [hz]; decide) rfl hUN rfl HBB (enC_stb a1 n1 c1 a2 n2 c2 a3 n3 c3 x cq w.heap.size (w0.heap.size)) (Below.refl _ _) rfl))
  ·intro lQ b W hI hUN hED KQ hKQ
   refine rk_plain rfl ?_
   have fc:aT b 14=.bool true:=hI.got 11 (od rfl) (edge hED 11 (by kernel_rfl)) rfl
   have f:=hI.got 19 (od rfl) (edge hED 19 (by kernel_rfl)) rfl
   replace f:aT b 22=.bool cq:=f
   exact opw_pick_t 14 _ _ rfl fc _ f (hKQ.out _ _ (hI.put 20 23 rfl rfl (by rw [hz]; decide) rfl hUN rfl HBB (enC_stb a1 n1 c1 a2 n2 c2 a3 n3 c3 x cq w.heap.size (w0.heap.size)) (Below.refl _ _) rfl))
  ·intro lQ b W hI hUN hED KQ hKQ
   refine rk_plain rfl ?_
   have f:=hI.got 20 (od rfl) (edge hED 20 (by kernel_rfl)) rfl
   exact opw_assign 23 rfl (hKQ.out _ _ (hI.put 21 2 rfl rfl (by rw [hz]; decide) rfl hUN rfl HBB (enC_stb a1 n1 c1 a2 n2 c2 a3 n3 c3 x cq w.heap.size (w0.heap.size)) (Below.refl _ _) f))
 ·intro b W hf hb F
  have e2:aT b 2=.bool cq:=F 21 (od rfl) rfl
  rw [hf.eq]
  simp only [puts,Act.put,List.setIfInBounds_toArray,List.set_cons_zero,List.set_cons_succ,e2]
  clear hf F e2
  generalize aT b=AT
  clear b
  go_wp2
  go_ret
  exact ⟨cq,rfl,HIF.out,hB0.trans (hb.mono hB0.size)⟩
open Go.RowKit Go.Maps
theorem entP_wf {x:CP}{y:GP}(h:entP x y):(Lit.int .i64 y.ser).wf=true:=WalkArith.wf_i64 (by have:=h.1; omega)
theorem ftS_max {xs:List PT}(h:nameP xs):(ftS xs).size≤maxLen:=by
 show (fbs xs).toArray.size≤maxLen
 have h1:=fbs_len xs (nameP_all h)
 have h2:=h.1
 rw [List.size_toArray]
 unfold maxLen
 omega
theorem kb_like {x:CP}{y z:GP}(hy:entP x y)(hz:entP x z):kb y=kb z↔likeP y z:=by
 constructor
 ·intro h
  have h2:kl (ftS y.parts) y.ser=kl (ftS z.parts) z.ser:=congrArg Lit.string h
  obtain ⟨e1,e2⟩:=key_inj (ftS_max (entP_name hy)) (ftS_max (entP_name hz)) (entP_wf hy) (entP_wf hz) h2
  exact ⟨e2,(ftS_same (entP_name hy) (entP_name hz)).1 e1⟩
 ·rintro ⟨e1,e2⟩
  unfold kb
  rw [e1,(ftS_same (entP_name hy) (entP_name hz)).2 e2]
theorem Sn_size (x:CP)(xs:List GP)(n:Nat)(hn:xs.length=n)(h:∀ k,k<n→entP x (xs.getD k default)):Maps.size (Sn xs n)=n↔∀ i k,i<n→k<i→¬ likeP (xs.getD k default) (xs.getD i default):=by
 have hm:∀ y∈xs,entP x y:=fun y hy=>by
  obtain ⟨k,hk,rfl⟩:=List.getElem_of_mem hy
  have:=h k (by omega)
  rw [List.getD_eq_getElem?_getD,List.getElem?_eq_getElem hk] at this
  exact this
 have e0:(xs.take n).map (fun y=>Lit.string (kb y))=(xs.map kb).map Lit.string:=by
  rw [List.take_of_length_le (by omega),List.map_map]
  rfl
 have e1:Maps.size (Sn xs n)=((xs.map kb).foldl addS []).length:=by
  unfold Sn
  rw [e0,size_setOf _ _ (fun l hl=>?_)]
  ·have:=fold_str (xs.map kb) []
   rw [List.map_nil] at this
   rw [this,List.length_map]
  ·obtain ⟨b,hb,rfl⟩:=List.mem_map.1 hl
   obtain ⟨y,hy,rfl⟩:=List.mem_map.1 hb
   exact isKey (ftS_max (entP_name (hm y hy))) (entP_wf (hm y hy))
 have e2:=(fold_len (xs.map kb) []).2
 rw [List.length_nil,Nat.zero_add,List.length_map,hn] at e2
 rw [e1,e2]
 have e3:(∀ y∈xs.map kb,y∉([]:List (List UInt8))):=fun y _ hy=>by cases hy
 rw [List.Nodup,List.pairwise_iff_getElem]
 constructor
 ·rintro ⟨_,q⟩ i k hi hk hl
  have hi':i<xs.length:=by omega
  have hk':k<xs.length:=by omega
  have:=q k i (by simpa using hk') (by simpa using hi') hk
  apply this
  simp only [List.getElem_map]
  have a1:=hm _ (List.getElem_mem hk')
  have a2:=hm _ (List.getElem_mem hi')
  rw [List.getD_eq_getElem?_getD,List.getElem?_eq_getElem hk',List.getD_eq_getElem?_getD,List.getElem?_eq_getElem hi'] at hl
  exact (kb_like a1 a2).2 hl
 ·intro q
  refine ⟨e3,fun k i hk hi hki e=>?_⟩
  have hk':k<xs.length:=by simpa using hk
  have hi':i<xs.length:=by simpa using hi
  simp only [List.getElem_map] at e
  have a1:=hm _ (List.getElem_mem hk')
  have a2:=hm _ (List.getElem_mem hi')
  refine q i k (by omega) hki ?_
  rw [List.getD_eq_getElem?_getD,List.getElem?_eq_getElem hk',List.getD_eq_getElem?_getD,List.getElem?_eq_getElem hi']
  exact (kb_like a1 a2).1 e
end Go.Proofs.YtnmplldhdfingaaGreatDoor
