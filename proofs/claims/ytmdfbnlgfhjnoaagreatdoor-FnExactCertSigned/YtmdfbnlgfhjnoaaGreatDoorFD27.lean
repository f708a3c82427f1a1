import Derived.Test.YtmdfbnlgfhjnoaaGreatDoorFD26
set_option maxRecDepth 10000
set_option maxHeartbeats 8000000
set_option linter.unusedVariables false
namespace Go.Proofs.YtmdfbnlgfhjnoaaGreatDoor
open Go.RowKit
structure XP where
 id:Int
 crit:Bool
 val:List Int
instance:Inhabited XP:=⟨⟨0,false,[]⟩⟩
structure XPS where
 a1:Option Addr
 n1:Nat
 c1:Nat
 deriving Inhabited
def XPv (s:XPS)(x:XP):Value:=.agg #[.int .i64 x.id,.bool x.crit,.slice s.a1 s.n1 s.c1]
structure XPR (w:World)(s:XPS)(x:XP):Prop where
 r1:Row w s.a1 s.n1 x.val
 m1:s.n1≤9223372036854775807
 nl1:s.a1=none→s.c1=0
theorem XPR.kept {w w':World}{s:XPS}{x:XP}(h:XPR w s x)(hb:Below w.heap.size w w'):XPR w' s x:=⟨h.r1.kept hb,h.m1,h.nl1⟩
def XPZ (x:XP):Prop:=(x.val.length≤1048576)
def XPZn (s:XPS)(x:XP):Prop:=(s.n1≤1048576)
theorem XPR.zn {w:World}{s:XPS}{x:XP}(h:XPR w s x):XPZ x↔XPZn s x:=by
 unfold XPZ XPZn
 rw [h.r1.len]
def XPT (s:XPS):Prop:=s.c1=s.n1
theorem szExt_k (s:XPS)(x:XP)(lf:Int)(w:World)(h:XPR w s x)(hl0:0≤lf)(hl1:lf≤1048576) :
  Calls Tryz.prog 73 #[XPv s x,.int .i64 lf] w fun e w'=>∃ r,e=.returned (.int .i64 r)∧(r<0∨(0≤r∧r≤1048576∧XPZ x))∧Below w.heap.size w w':=by
 obtain ⟨a1,n1,c1⟩:=s
 have HK:Hid (XPR w ⟨a1,n1,c1⟩ x):=h
 have HIF:Hid (XPZ x↔XPZn ⟨a1,n1,c1⟩ x):=h.zn
 clear h
 show Calls Tryz.prog 73 #[.agg #[.int .i64 x.id,.bool x.crit,.slice a1 n1 c1],.int .i64 lf] w _
 obtain ⟨w0,hw0⟩:∃ w0,w0=w.alloc (.cells #[.int .i64 x.id,.bool x.crit,.slice a1 n1 c1] 108):=⟨_,rfl⟩
 have B0:Hid (Below w.heap.size w w0):=by show Below w.heap.size w w0; rw [hw0]; exact (Below.refl _ _).alloc (Nat.le_refl _) _
 have hh0:w0.heap[w.heap.size]? = some (.cells #[.int .i64 x.id,.bool x.crit,.slice a1 n1 c1] 108):=by rw [hw0]; exact heap_alloc_new w _
 have Y0:Hid (_=_):=hh0
 have l0:w.heap.size<w0.heap.size:=(Array.getElem?_eq_some_iff.1 hh0).1
 clear hh0
 have h0:0≤lf∧lf≤1048576:=⟨hl0,hl1⟩
 clear hl0 hl1
 go_enter Tryz.func73,Tryz.ntmps73
 go_upto_region 1 with fail
 rw [← hw0]
 clear hw0
 have q2:w0.cell? ⟨w.heap.size,2,none⟩=some (.slice a1 n1 c1):=qk Y0.out rfl
 go_wp2_with fail
 refine (szByteS_k a1 n1 c1 lf _ h0.1 h0.2 HK.out.m1).mono ?_
 rintro e w1 ⟨r1,rfl,hr1,hw1⟩
 subst hw1
 have B1:Hid (Below w.heap.size w w0):=B0.out
 have Y1:Hid (w0.heap[w.heap.size]? = some (.cells #[.int .i64 x.id,.bool x.crit,.slice a1 n1 c1] 108)):=Y0.out
 have l1:w.heap.size<w0.heap.size:=(Array.getElem?_eq_some_iff.1 Y1.out).1
 clear q2
 by_cases hneg1:r1<0
 ·clear hr1
  go_wp2
  go_ret
  exact ⟨_,rfl,.inl (by decide),B1.out⟩
 have h1:0≤r1∧r1≤1048576:=by omega
 have HR1:Hid (n1≤1048576):=by rcases hr1 with h | h; exact absurd h hneg1; exact h.2.2
 clear hr1
 go_wp2
 go_ret
 exact ⟨_,rfl,.inr ⟨h1.1,h1.2,HIF.out.2 HR1.out⟩,B1.out⟩
structure XPQ (w W:World)(ls:Array Value)(R:World→Prop)(vs:Array Value):Prop where
 b0:W.heap[w.heap.size]? = some (.cells ls 108 (0,0))
 b1:W.heap[w.heap.size+1]? = some (.cells #[.int .i64 0,.bool false,.slice none 0 0] 113 (0,0))
 b2:W.heap[w.heap.size+1+1]? = some (.cells vs 113 (0,0))
 st:Stab (w.heap.size+3) R
 r:R W
 below:Below w.heap.size w W
 lt:w.heap.size+3≤W.heap.size
theorem XPQ.set {w W:World}{ls vs:Array Value}{R:World→Prop}(h:XPQ w W ls R vs){us:Array Value}(j:Nat)(u:Value)(e:vs.setIfInBounds j u=us):XPQ w (W.setCell ⟨w.heap.size+1+1,j,none⟩ u) ls R us:=by
 have f:∀ l,l≠w.heap.size+2→(W.setCell ⟨w.heap.size+1+1,j,none⟩ u).heap[l]? = W.heap[l]?:=fun l hl=>Below.heap_setCell _ _ _ _ (by show l≠w.heap.size+1+1; omega)
 refine ⟨(f _ (by omega)).trans h.b0,(f _ (by omega)).trans h.b1,?_,h.st,h.st W _ (fun l hl _=>f l (by omega)) (by simp) h.r,⟨h.below.os,h.below.tape,h.below.output,by simpa [World.setCell] using h.below.size,fun l hl=>(f l (by omega)).trans (h.below.block l hl)⟩,by simpa [World.setCell] using h.lt⟩
 rw [← e]
 exact heap_setCell_same W (w.heap.size+1+1) j _ 113 u h.b2
theorem XPQ.on {w W:World}{ls vs:Array Value}{R:World→Prop}{W':World}(h:XPQ w W ls R vs)(hb:Below W.heap.size W W'):XPQ w W' ls R vs:=by
 have hl:=h.lt
 have hs:=hb.size
 exact ⟨(hb.block _ (by omega)).trans h.b0,(hb.block _ (by omega)).trans h.b1,(hb.block _ (by omega)).trans h.b2,h.st,h.st W W' (fun l _ hl=>hb.block l hl) hs h.r,h.below.trans (hb.mono h.below.size),by omega⟩
theorem XPQ.more {w W:World}{ls vs:Array Value}{R Q:World→Prop}(h:XPQ w W ls R vs)(s:Stab (w.heap.size+3) Q)(q:Q W):XPQ w W ls Q vs:=⟨h.b0,h.b1,h.b2,s,q,h.below,h.lt⟩
theorem XPQ.out {w W:World}{ls vs:Array Value}{R:World→Prop}(h:XPQ w W ls R vs)(j:Nat):W.cell? ⟨w.heap.size+1+1,j,none⟩=vs[j]?∧W.frozen? ⟨w.heap.size+1+1,j,none⟩=false∧W.cell? ⟨w.heap.size,j,none⟩=ls[j]? :=
 ⟨cell_of_row _ _ j _ 113 (0,0) h.b2,frozen_of_row W _ j _ 113 h.b2,cell_of_row _ _ j _ 108 (0,0) h.b0⟩
theorem infoSizeXP:(Tryz.prog.info? 113).map (·.size)=some 3:=by kernel_rfl
theorem toExt_k (s:XPS)(x:XP)(w:World)(h:XPR w s x)(hz:XPZ x) :
  Calls Tryz.prog 93 #[XPv s x] w fun e w'=>∃ t:XPS,e=.returned (XPv t x)∧XPT t∧Keeps w.heap.size w' (fun W=>XPR W t x)∧Below w.heap.size w w':=by
 have hzn:=h.zn.1 hz
 obtain ⟨a1,n1,c1⟩:=s
 have HK:Hid (XPR w ⟨a1,n1,c1⟩ x):=h
 have HZ:Hid ((n1≤1048576)):=hzn
 clear h hz hzn
 show Calls Tryz.prog 93 #[.agg #[.int .i64 x.id,.bool x.crit,.slice a1 n1 c1]] w _
 obtain ⟨w1,hW0⟩:∃ W0,W0=(((w.alloc (.cells #[.int .i64 x.id,.bool x.crit,.slice a1 n1 c1] 108)).alloc (.cells #[.int .i64 0,.bool false,.slice none 0 0] 113)).alloc (.cells #[.int .i64 0,.bool false,.slice none 0 0] 113)):=⟨_,rfl⟩
 have hB0:Below w.heap.size w w1:=by rw [hW0]; exact three_below _ _ _ _
 have hS0:w1.heap.size=w.heap.size+3:=by rw [hW0]; simp
 obtain ⟨b0,b1,b2⟩:=three_blocks' w (.cells #[.int .i64 x.id,.bool x.crit,.slice a1 n1 c1] 108) (.cells #[.int .i64 0,.bool false,.slice none 0 0] 113) (.cells #[.int .i64 0,.bool false,.slice none 0 0] 113)
 rw [← hW0] at b0 b1 b2
 have T1:Hid (XPQ w w1 #[.int .i64 x.id,.bool x.crit,.slice a1 n1 c1] (fun _=>True) #[.int .i64 0,.bool false,.slice none 0 0]):=⟨b0,b1,b2,fun _ _ _ _ _=>trivial,trivial,hB0,by omega⟩
 clear b0 b1 b2 hB0 hS0
 go_enter Tryz.func93,Tryz.ntmps93
 go_upto_region 2 with fail
 rw [← hW0]
 clear hW0
 obtain ⟨o0,f0,l0⟩:=T1.out.out 0
 have o0:w1.cell? ⟨w.heap.size+1+1,0,none⟩=some (.int .i64 0):=o0
 have l0:w1.cell? ⟨w.heap.size,0,none⟩=some (.int .i64 x.id):=l0
 have m1:=T1.out.lt
 obtain ⟨w2,hw2⟩:∃ W,W=(w1.setCell ⟨w.heap.size+1+1,0,none⟩ (.int .i64 x.id)):=⟨_,rfl⟩
 have T2:Hid (XPQ w w2 #[.int .i64 x.id,.bool x.crit,.slice a1 n1 c1] (fun _=>True) #[.int .i64 x.id,.bool false,.slice none 0 0]):=by rw [hw2]; exact (T1.out.set 0 _ rfl)
 have HW2:Hid (_=_):=hw2
 clear hw2
 go_upto_region 3 with fail
 rw [← HW2.out]
 clear HW2 o0 f0 l0 m1 T1
 obtain ⟨o1,f1,l1⟩:=T2.out.out 1
 have o1:w2.cell? ⟨w.heap.size+1+1,1,none⟩=some (.bool false):=o1
 have l1:w2.cell? ⟨w.heap.size,1,none⟩=some (.bool x.crit):=l1
 have m2:=T2.out.lt
 obtain ⟨w3,hw3⟩:∃ W,W=(w2.setCell ⟨w.heap.size+1+1,1,none⟩ (.bool x.crit)):=⟨_,rfl⟩
 have T3:Hid (XPQ w w3 #[.int .i64 x.id,.bool x.crit,.slice a1 n1 c1] (fun _=>True) #[.int .i64 x.id,.bool x.crit,.slice none 0 0]):=by rw [hw3]; exact (T2.out.set 1 _ rfl)
 have HW3:Hid (_=_):=hw3
 clear hw3
 go_upto_region 4 with fail
 rw [← HW3.out]
 clear HW3 o1 f1 l1 m2 T2
 obtain ⟨_,_,l2⟩:=T3.out.out 2
 have l2:w3.cell? ⟨w.heap.size,2,none⟩=some (.slice a1 n1 c1):=l2
 have m3:=T3.out.lt
 go_wp2_with fail
 refine (toByteS_k a1 n1 c1 x.val _ ((HK.out.kept T3.out.below).r1) HZ.out).mono ?_
 rintro e w4 ⟨p1,rfl,hp,hb⟩
 have T4:Hid (XPQ w w4 #[.int .i64 x.id,.bool x.crit,.slice a1 n1 c1] (fun W=>Keeps (w.heap.size+3) W (fun W=>Row W p1 n1 x.val)) #[.int .i64 x.id,.bool x.crit,.slice none 0 0]):=(T3.out.on hb).more (stab_keeps _ _) (hp.mono (by omega))
 clear hb hp T3 l2 m3
 obtain ⟨o2,f2,l2⟩:=T4.out.out 2
 have o2:w4.cell? ⟨w.heap.size+1+1,2,none⟩=some (.slice none 0 0):=o2
 have l2:w4.cell? ⟨w.heap.size,2,none⟩=some (.slice a1 n1 c1):=l2
 have m4:=T4.out.lt
 obtain ⟨w5,hw5⟩:∃ W,W=(w4.setCell ⟨w.heap.size+1+1,2,none⟩ (.slice p1 n1 n1)):=⟨_,rfl⟩
 have T5:Hid (XPQ w w5 #[.int .i64 x.id,.bool x.crit,.slice a1 n1 c1] (fun W=>Keeps (w.heap.size+3) W (fun W=>Row W p1 n1 x.val)) #[.int .i64 x.id,.bool x.crit,.slice p1 n1 n1]):=by rw [hw5]; exact (T4.out.set 2 _ rfl)
 have HW5:Hid (_=_):=hw5
 clear hw5
 go_upto_region 5 with fail
 rw [← HW5.out]
 clear HW5 o2 f2 l2 m4 T4
 have HMX:Hid (XPR w ⟨a1,n1,c1⟩ x):=HK.out
 clear HK
 have hlF:=T5.out.lt
 rename_i K0 hK0
 apply wp_region_lit
 refine wpList_load_row rfl 113 _ rfl (w.heap.size+1+1) rfl 113 #[.int .i64 x.id,.bool x.crit,.slice p1 n1 n1] (0,0) _ T5.out.b2 Tryz.underlying113 rfl infoSizeXP ?_
 refine wpList_store_rowTo rfl 113 _ _ rfl rfl (w.heap.size+1) #[.int .i64 x.id,.bool x.crit,.slice p1 n1 n1] rfl rfl 113 #[.int .i64 0,.bool false,.slice none 0 0] T5.out.b1 infoSizeXP rfl (by simp [Value.oneCell']) ?_
 apply wpList_nil
 refine hK0 _ _ ?_
 clear hK0 K0
 have hrow:(w5.setRow (w.heap.size+1) #[.int .i64 x.id,.bool x.crit,.slice p1 n1 n1]).heap[w.heap.size+1]? = some (.cells #[.int .i64 x.id,.bool x.crit,.slice p1 n1 n1] 113 (0,0)):=setRow_heap _ _ _ _ _ _ T5.out.b1
 have hoth:∀ l,l≠w.heap.size+1→(w5.setRow (w.heap.size+1) #[.int .i64 x.id,.bool x.crit,.slice p1 n1 n1]).heap[l]? = w5.heap[l]?:=fun l hl=>setRow_other _ _ _ _ hl
 have hsz:(w5.setRow (w.heap.size+1) #[.int .i64 x.id,.bool x.crit,.slice p1 n1 n1]).heap.size=w5.heap.size:=by simp
 have hbF:Below w.heap.size w (w5.setRow (w.heap.size+1) #[.int .i64 x.id,.bool x.crit,.slice p1 n1 n1]):=⟨T5.out.below.os,T5.out.below.tape,T5.out.below.output,by rw [hsz]; exact T5.out.below.size,fun l hl=>(hoth l (by omega)).trans (T5.out.below.block l hl)⟩
 have hr:=T5.out.st w5 (w5.setRow (w.heap.size+1) #[.int .i64 x.id,.bool x.crit,.slice p1 n1 n1]) (fun l hl hl2=>hoth l (by omega)) (Nat.le_of_eq hsz.symm) T5.out.r
 go_wp2
 try simp only [Exit.inBlock,Exit.then]
 have k1:Keeps (w.heap.size+3) _ (fun W=>Row W p1 n1 x.val):=hr
 refine bodyPost_ret (results_cell_row rfl _ _ (w.heap.size+1) 113 _ (0,0) _ rfl hrow Tryz.underlying113 rfl infoSizeXP) rfl ⟨⟨p1,n1,n1⟩,rfl,rfl,Keeps.mono (k1.map fun W q=>?_) (by omega),hbF⟩
 have h1:=q
 exact ⟨h1,HMX.out.m1,nil_row h1⟩
theorem eqExt_k (s t:XPS)(x:XP)(w:World)(h:XPR w s x)(h2:XPR w t x)(hz:XPZ x) :
  Calls Tryz.prog 115 #[XPv s x,XPv t x] w fun e w'=>e=.returned (.bool true)∧Below w.heap.size w w':=by
 have hzn:=h.zn.1 hz
 obtain ⟨a1,n1,c1⟩:=s
 obtain ⟨b1,m1,d1⟩:=t
 obtain rfl:m1=n1:=(h2.r1.len).symm.trans h.r1.len
 have H1:Hid (XPR w ⟨a1,m1,c1⟩ x):=h
 have H2:Hid (XPR w ⟨b1,m1,d1⟩ x):=h2
 have HZ:Hid ((m1≤1048576)):=hzn
 clear h h2 hz hzn
 show Calls Tryz.prog 115 #[.agg #[.int .i64 x.id,.bool x.crit,.slice a1 m1 c1],.agg #[.int .i64 x.id,.bool x.crit,.slice b1 m1 d1]] w _
 obtain ⟨w0,hW0⟩:∃ W0,W0=((w.alloc (.cells #[.int .i64 x.id,.bool x.crit,.slice a1 m1 c1] 113)).alloc (.cells #[.int .i64 x.id,.bool x.crit,.slice b1 m1 d1] 113)):=⟨_,rfl⟩
 have HB0:Hid (Below w.heap.size w w0):=by show Below w.heap.size w w0; rw [hW0]; exact ((Below.refl _ _).alloc (Nat.le_refl _) _).alloc (by simp) _
 have y:=two_blocks w (.cells #[.int .i64 x.id,.bool x.crit,.slice a1 m1 c1] 113) (.cells #[.int .i64 x.id,.bool x.crit,.slice b1 m1 d1] 113)
 rw [← hW0] at y
 have Y0:Hid (w0.heap[w.heap.size]? = some (.cells #[.int .i64 x.id,.bool x.crit,.slice a1 m1 c1] 113)):=y.1
 have Y1:Hid (w0.heap[w.heap.size+1]? = some (.cells #[.int .i64 x.id,.bool x.crit,.slice b1 m1 d1] 113)):=y.2
 have l0:w.heap.size+1<w0.heap.size:=(Array.getElem?_eq_some_iff.1 y.2).1
 clear y
 have t_id:(x.id != x.id)=false:=by simp
 have t_crit:(x.crit != x.crit)=false:=by simp
 go_enter Tryz.func115,Tryz.ntmps115
 go_upto_region 1 with fail
 rw [← hW0]
 clear hW0
 have p0:w0.cell? ⟨w.heap.size,0,none⟩=some (.int .i64 x.id):=qk Y0.out rfl
 have q0:w0.cell? ⟨w.heap.size+1,0,none⟩=some (.int .i64 x.id):=qk Y1.out rfl
 have p1:w0.cell? ⟨w.heap.size,1,none⟩=some (.bool x.crit):=qk Y0.out rfl
 have q1:w0.cell? ⟨w.heap.size+1,1,none⟩=some (.bool x.crit):=qk Y1.out rfl
 have p2:w0.cell? ⟨w.heap.size,2,none⟩=some (.slice a1 m1 c1):=qk Y0.out rfl
 have q2:w0.cell? ⟨w.heap.size+1,2,none⟩=some (.slice b1 m1 d1):=qk Y1.out rfl
 go_wp2_with fail
 refine (eqByteS_one a1 b1 m1 c1 d1 x.val _ ((H1.out.kept HB0.out).r1) ((H2.out.kept HB0.out).r1) HZ.out).mono ?_
 rintro e w1 ⟨rfl,hb1⟩
 replace Y0:Hid (w1.heap[w.heap.size]? = some (.cells #[.int .i64 x.id,.bool x.crit,.slice a1 m1 c1] 113)):=(hb1.block _ (by omega)).trans Y0.out
 replace Y1:Hid (w1.heap[w.heap.size+1]? = some (.cells #[.int .i64 x.id,.bool x.crit,.slice b1 m1 d1] 113)):=(hb1.block _ l0).trans Y1.out
 have HB1:Hid (Below w.heap.size w w1):=HB0.out.trans (hb1.mono HB0.out.size)
 have l1:w.heap.size+1<w1.heap.size:=(Array.getElem?_eq_some_iff.1 Y1.out).1
 clear p0 q0 p1 q1 p2 q2 hb1 HB0 l0
 go_wp2
 go_ret
 exact ⟨rfl,HB1.out⟩
structure XPC (w:World)(b o:Nat)(s:XPS)(x:XP):Prop where
 c0:w.cell? ⟨b,o,none⟩=some (.int .i64 x.id)
 c1:w.cell? ⟨b,o+1,none⟩=some (.bool x.crit)
 c2:w.cell? ⟨b,o+2,none⟩=some (.slice s.a1 s.n1 s.c1)
theorem XPC.of {w w':World}{b o:Nat}{s:XPS}{x:XP}(h:XPC w b o s x)(hc:∀ i,w'.cell? ⟨b,i,none⟩=w.cell? ⟨b,i,none⟩):XPC w' b o s x:=⟨(hc _).trans h.c0,(hc _).trans h.c1,(hc _).trans h.c2⟩
structure XPs (w:World)(a:Option Addr)(n:Nat)(xs:List XP):Prop where
 len:xs.length=n
 max:n≤9223372036854775807
 get:∀ k,k<n→∃ (b off:Nat) (s:XPS),a=some ⟨b,off,none⟩∧b<w.heap.size∧XPC w b (off+k * 3) s (xs.getD k default)∧XPR w s (xs.getD k default)
theorem XPs.kept {w w':World}{a:Option Addr}{n:Nat}{xs:List XP}(h:XPs w a n xs)(hb:Below w.heap.size w w'):XPs w' a n xs:=by
 refine ⟨h.len,h.max,fun k hk=>?_⟩
 obtain ⟨b,off,s,ha,hlt,hc,hp⟩:=h.get k hk
 exact ⟨b,off,s,ha,Nat.lt_of_lt_of_le hlt hb.size,hc.of (fun i=>hb.cell (p:=⟨b,i,none⟩) hlt),hp.kept hb⟩
theorem szExtS_k (a:Option Addr)(n cap:Nat)(xs:List XP)(lf:Int)(w:World)(h:XPs w a n xs)(hl0:0≤lf)(hl1:lf≤1048576) :
  Calls Tryz.prog 33 #[.slice a n cap,.int .i64 lf] w fun e w'=>∃ r,e=.returned (.int .i64 r)∧(r<0∨(0≤r∧r≤1048576∧n≤1048576∧∀ k,k<n→XPZ (xs.getD k default)))∧Below w.heap.size w w':=by
 have H0:Hid (XPs w a n xs):=h
 have hn:=h.max
 clear h
 by_cases hlt:(n:Int)≤lf
 ·go_enter Tryz.func33,Tryz.ntmps33
  go_wp2
  go_loopw [1,5] (fun l i wr=>∃ (k:Nat) (left:Int),k≤n∧i=.int .i64 k∧l=.int .i64 left∧0≤left∧left≤1048576∧Hid (∀ j,j<k→XPZ (xs.getD j default))∧Below w.heap.size w wr) (fun _ i _=>n - (intOf i).toNat)
  case atStart=>exact ⟨0,lf - n,Nat.zero_le _,rfl,rfl,by omega,by omega,fun j hj=>absurd hj (Nat.not_lt_zero _),Below.refl _ _⟩
  case round =>
   obtain ⟨k,left,hk,rfl,rfl,h0,h1,HA,hbr⟩:=hrel
   by_cases hkn:k<n
   ·obtain ⟨b,off,⟨a1,n1,c1⟩,rfl,hlb,hc,hp⟩:=H0.out.get k hkn
    obtain ⟨y,hy⟩:∃ y,y=xs.getD k default:=⟨_,rfl⟩
    rw [← hy] at hc hp
    have HY:Hid (y=xs.getD k default):=hy
    replace hc:=hc.of (w':=wr) (fun i=>hbr.cell (p:=⟨b,i,none⟩) hlb)
    have u0:wr.cell? ⟨b,off+k * 3,none⟩=some (.int .i64 y.id):=hc.c0
    have u1:wr.cell? ⟨b,off+k * 3+1,none⟩=some (.bool y.crit):=hc.c1
    have u2:wr.cell? ⟨b,off+k * 3+2,none⟩=some (.slice a1 n1 c1):=hc.c2
    have HP:Hid (XPR wr ⟨a1,n1,c1⟩ y):=hp.kept hbr
    have hkni:(k:Int)<(n:Int):=by omega
    clear hc hy hp
    go_wp2_with fail
    refine (szExt_k ⟨a1,n1,c1⟩ y left _ HP.out h0 h1).mono ?_
    rintro e w2 ⟨r,rfl,hr,hb2⟩
    have hb2':Below w.heap.size w w2:=hbr.trans (hb2.mono hbr.size)
    by_cases hneg:r<0
    ·clear hr
     go_wp2
     go_ret
     exact ⟨_,rfl,.inl (by decide),hb2'⟩
    ·have hr1:0≤r:=by omega
     have hr2:r≤1048576:=by omega
     have HR:Hid (XPZ y):=by rcases hr with h | h; exact absurd h hneg; exact h.2.2
     clear hr
     go_wp2
     go_roundw
     case rel =>
      refine ⟨k+1,r,by omega,by go_num,rfl,hr1,hr2,fun j hj=>?_,hb2'⟩
      by_cases hjk:j=k
      ·subst hjk; rw [← HY.out]; exact HR.out
      ·exact HA.out j (by omega)
     case measure=>simp [intOf]; omega
   ·obtain rfl:n=k:=by omega
    go_wp2
    go_ret
    exact ⟨_,rfl,.inr ⟨h0,h1,by omega,HA.out⟩,hbr⟩
 ·go_enter Tryz.func33,Tryz.ntmps33
  go_wp2
  go_ret
  exact ⟨_,rfl,.inl (by decide),Below.refl _ _⟩
theorem eqExtS_k (a b:Option Addr)(n ca cb:Nat)(xs:List XP)(w:World)(h:XPs w a n xs)(h2:XPs w b n xs)(hz:∀ k,k<n→XPZ (xs.getD k default)) :
  Calls Tryz.prog 52 #[.slice a n ca,.slice b n cb] w fun e w'=>e=.returned (.bool true)∧Below w.heap.size w w':=by
 have HK:Hid (XPs w a n xs):=h
 have HK2:Hid (XPs w b n xs):=h2
 have HZ:Hid (∀ k,k<n→XPZ (xs.getD k default)):=hz
 have hn:=h.max
 clear h h2 hz
 go_enter Tryz.func52,Tryz.ntmps52
 go_wp2
 go_loopw [5] (fun i wr=>∃ k:Nat,k≤n∧i=.int .i64 k∧Below w.heap.size w wr) (fun i _=>n - (intOf i).toNat)
 case atStart=>exact ⟨0,Nat.zero_le _,rfl,Below.refl _ _⟩
 case round =>
  obtain ⟨k,hk,rfl,hbr⟩:=hrel
  by_cases hkn:k<n
  ·obtain ⟨g1,off1,⟨a1,n1,c1⟩,rfl,hl1,hp,hr1⟩:=HK.out.get k hkn
   obtain ⟨g2,off2,⟨b1,m1,d1⟩,rfl,hl2,hq,hr2⟩:=HK2.out.get k hkn
   have hgp:=HZ.out k hkn
   obtain ⟨y,hy⟩:∃ y,y=xs.getD k default:=⟨_,rfl⟩
   rw [← hy] at hp hq hr1 hr2 hgp
   clear hy
   have HGP:Hid (XPZ y):=hgp
   replace hp:=hp.of (w':=wr) (fun i=>hbr.cell (p:=⟨g1,i,none⟩) hl1)
   replace hq:=hq.of (w':=wr) (fun i=>hbr.cell (p:=⟨g2,i,none⟩) hl2)
   have p0:wr.cell? ⟨g1,off1+k * 3,none⟩=some (.int .i64 y.id):=hp.c0
   have p1:wr.cell? ⟨g1,off1+k * 3+1,none⟩=some (.bool y.crit):=hp.c1
   have p2:wr.cell? ⟨g1,off1+k * 3+2,none⟩=some (.slice a1 n1 c1):=hp.c2
   have q0:wr.cell? ⟨g2,off2+k * 3,none⟩=some (.int .i64 y.id):=hq.c0
   have q1:wr.cell? ⟨g2,off2+k * 3+1,none⟩=some (.bool y.crit):=hq.c1
   have q2:wr.cell? ⟨g2,off2+k * 3+2,none⟩=some (.slice b1 m1 d1):=hq.c2
   have HP1:Hid (XPR wr.drew ⟨a1,n1,c1⟩ y):=hr1.kept hbr.drew
   have HP2:Hid (XPR wr.drew ⟨b1,m1,d1⟩ y):=hr2.kept hbr.drew
   have hkni:(k:Int)<(n:Int):=by omega
   have hs:=hbr.size
   clear hp hq hr1 hr2 hgp
   have EQ:Hid (Calls Tryz.prog 115 #[.agg #[.int .i64 y.id,.bool y.crit,.slice a1 n1 c1],.agg #[.int .i64 y.id,.bool y.crit,.slice b1 m1 d1]] wr.drew fun e w'=>e=.returned (.bool true)∧Below wr.drew.heap.size wr.drew w'):=eqExt_k ⟨a1,n1,c1⟩ ⟨b1,m1,d1⟩ y _ HP1.out HP2.out HGP.out
   go_wp2_with fail
   go_region_with (go_at_call 115; refine EQ.out.mono ?_; rintro e w2 ⟨rfl,hb2⟩)
   all_goals
    have b5:Below w.heap.size w w2:=hbr.drew.trans (hb2.mono hs)
    go_wp2
    go_roundw
    case rel=>exact ⟨k+1,by omega,by go_num,b5⟩
    case measure=>simp [intOf]; omega
  ·go_wp2
   go_ret
   exact ⟨rfl,hbr⟩
theorem Tryz.infoXP:(Tryz.prog.info? 113).map (fun i=>(i.zero,i.size,i.bytes))=some (some (.agg #[.int .i64 0,.bool false,.slice none 0 0]),3,40):=by kernel_rfl
def putXP (w:World)(g o:Nat)(v0 v1 v2:Value):World:=(((w.setCell ⟨g,o,none⟩ v0).setCell ⟨g,o+1,none⟩ v1).setCell ⟨g,o+2,none⟩ v2)
theorem putXP_other (w:World)(g o l:Nat)(h:l≠g)(v0 v1 v2:Value):(putXP w g o v0 v1 v2).heap[l]? = w.heap[l]? :=
 (Below.heap_setCell _ _ _ _ (by show l≠g; exact h)).trans ((Below.heap_setCell _ _ _ _ (by show l≠g; exact h)).trans (Below.heap_setCell _ _ _ _ (by show l≠g; exact h)))
theorem putXP_size (w:World)(g o:Nat)(v0 v1 v2:Value):(putXP w g o v0 v1 v2).heap.size=w.heap.size:=by simp [putXP]
theorem putXP_below {B:Nat}{w0 w:World}(h:Below B w0 w)(g o:Nat)(hg:B≤g)(v0 v1 v2:Value):Below B w0 (putXP w g o v0 v1 v2):=(((h.setCell hg _).setCell hg _).setCell hg _)
def XPPre (w:World)(g k:Nat)(xs:List XP):Prop:=∀ j,j<k→∃ s:XPS,XPC w g (j * 3) s (xs.getD j default)∧Keeps (g+1) w (fun W=>XPR W s (xs.getD j default))
theorem XPPre.kept {w w':World}{g k:Nat}{xs:List XP}(h:XPPre w g k xs)(hg:g<w.heap.size)(hb:Below w.heap.size w w'):XPPre w' g k xs:=fun j hj=>by
 obtain ⟨s,h3,h4⟩:=h j hj
 exact ⟨s,h3.of (fun i=>hb.cell (p:=⟨g,i,none⟩) hg),stab_keeps _ _ w w' (fun l _ hl=>hb.block l hl) hb.size h4⟩
structure PutXP (B:Nat)(w w':World)(g n cap i:Nat)(s:XPS)(x:XP):Prop where
 own:∃ vs,w'.ownsRow B 113 3 (.slice (some ⟨g,0,none⟩) n cap) n vs
 other:∀ l,l≠g→w'.heap[l]? = w.heap[l]?
 size:w'.heap.size=w.heap.size
 old:∀ j,j<n * 3→j<i * 3∨i * 3+3≤j→w'.cell? ⟨g,j,none⟩=w.cell? ⟨g,j,none⟩
 cells:XPC w' g (i * 3) s x
theorem putXP_is {B:Nat}{w:World}{g n cap:Nat}{vs:List Value}(h:w.ownsRow B 113 3 (.slice (some ⟨g,0,none⟩) n cap) n vs)(i:Nat)(hi:i<n)(s:XPS)(x:XP):PutXP B w (putXP w g (i * 3) (.int .i64 x.id) (.bool x.crit) (.slice s.a1 s.n1 s.c1)) g n cap i s x:=by
 have h1:=(((h.stored (i * 3) (.int .i64 x.id)).1.stored (i * 3+1) (.bool x.crit)).1.stored (i * 3+2) (.slice s.a1 s.n1 s.c1)).1
 have hl:vs.length=n * 3:=h.1
 have cc:=fun j (hj:j<n * 3)=>h1.cellAt j hj
 refine ⟨⟨_,h1⟩,fun l hl=>putXP_other _ _ _ _ hl _ _ _ ,putXP_size _ _ _ _ _ _ ,fun j hj ho=>?_,⟨?_,?_,?_⟩⟩
 ·refine (cc j hj).trans ?_
  rw [h.cellAt j hj]
  rw [List.getElem?_set_ne (by omega),List.getElem?_set_ne (by omega),List.getElem?_set_ne (by omega)]
 ·refine (cc _ (by omega)).trans ?_
  rw [List.getElem?_set_ne (by omega),List.getElem?_set_ne (by omega),List.getElem?_set_self (by omega)]
 ·refine (cc _ (by omega)).trans ?_
  rw [List.getElem?_set_ne (by omega),List.getElem?_set_self (by simp; omega)]
 ·refine (cc _ (by omega)).trans ?_
  rw [List.getElem?_set_self (by simp; omega)]
theorem toExtS_k (a:Option Addr)(n cap:Nat)(xs:List XP)(w:World)(h:XPs w a n xs)(hn:n≤1048576)(hz:∀ k,k<n→XPZ (xs.getD k default)) :
  Calls Tryz.prog 42 #[.slice a n cap] w fun e w'=>∃ a',e=.returned (.slice a' n n)∧Keeps w.heap.size w' (fun W=>XPs W a' n xs)∧Below w.heap.size w w':=by
 obtain ⟨i0,hi,hz0,hz1,hz2⟩:=info_parts Tryz.infoXP
 have HK:Hid (XPs w a n xs):=h
 have HZ:Hid (∀ k,k<n→XPZ (xs.getD k default)):=hz
 have hlen:Hid (xs.length=n):=h.len
 clear h hz
 go_enter Tryz.func42,Tryz.ntmps42
 go_wp2_with (first | (at_make; refine wpList_make_full _ rfl _ _ 44 rfl w.heap.size 113 i0 _ 3 Tryz.underlying44 hi hz0 hz1 _ _ _ _ n rfl rfl rfl rfl (by rw [hz2]; omega) (by unfold maxLen; omega) (by exact Nat.le_refl _) ?_; intro w1 hown hgrow))
 have hbl:Below w.heap.size w w1:=(Below.refl _ _).grown hgrow (Nat.le_refl _) (by simp)
 clear hgrow hi hz0 hz1 hz2
 go_loopw [4] (fun i wr=>∃ k:Nat,k≤n∧i=.int .i64 k∧Hid (∃ vs,wr.ownsRow w.heap.size 113 3 (.slice (some ⟨w.heap.size,0,none⟩) n n) n vs)∧Hid (XPPre wr w.heap.size k xs)∧Below w.heap.size w wr) (fun i _=>n - (intOf i).toNat)
 case atStart=>exact ⟨0,Nat.zero_le _,rfl,⟨_,hown⟩,fun j hj=>absurd hj (Nat.not_lt_zero _),hbl⟩
 case round =>
  obtain ⟨k,hk,rfl,HOR,HPRE,hbr⟩:=hrel
  obtain ⟨vs,hor⟩:=HOR.out
  have hgl:=(hor.lt _ rfl).2
  have HOV:Hid (_):=hor
  clear HOR hor hown hbl
  by_cases hkn:k<n
  ·obtain ⟨b,off,⟨a1,n1,c1⟩,rfl,hlb,hc,hp⟩:=HK.out.get k hkn
   have hgp:=HZ.out k hkn
   obtain ⟨y,hy⟩:∃ y,y=xs.getD k default:=⟨_,rfl⟩
   rw [← hy] at hc hp hgp
   have HY:Hid (y=xs.getD k default):=hy
   have HG:Hid (XPZ y):=hgp
   replace hc:=hc.of (w':=wr) (fun i=>hbr.cell (p:=⟨b,i,none⟩) hlb)
   have u0:wr.cell? ⟨b,off+k * 3,none⟩=some (.int .i64 y.id):=hc.c0
   have u1:wr.cell? ⟨b,off+k * 3+1,none⟩=some (.bool y.crit):=hc.c1
   have u2:wr.cell? ⟨b,off+k * 3+2,none⟩=some (.slice a1 n1 c1):=hc.c2
   have HP:Hid (XPR wr ⟨a1,n1,c1⟩ y):=hp.kept hbr
   have hkni:(k:Int)<(n:Int):=by omega
   have hs:=hbr.size
   clear hc hy hp hgp
   go_wp2_with fail
   refine (toExt_k ⟨a1,n1,c1⟩ y _ HP.out HG.out).mono ?_
   rintro e w2 ⟨s,rfl,_,hp2,hb2⟩
   have hor2:w2.ownsRow w.heap.size 113 3 (.slice (some ⟨w.heap.size,0,none⟩) n n) n vs:=ownsRow_below HOV.out hb2
   have hs2:=hb2.size
   have fr:∀ j,w2.frozen? ⟨w.heap.size,j,none⟩=false:=fun j=>hor2.frozenAt j
   have hvl:vs.length=n * 3:=hor2.1
   have cx:∀ j,j<n * 3→∃ z,w2.cell? ⟨w.heap.size,j,none⟩=some z:=fun j hj=>⟨_,(hor2.cellAt j hj).trans (List.getElem?_eq_getElem (by omega))⟩
   obtain ⟨z0,x0⟩:=cx (k * 3) (by omega)
   obtain ⟨z1,x1⟩:=cx (k * 3+1) (by omega)
   obtain ⟨z2,x2⟩:=cx (k * 3+2) (by omega)
   have f0:=fr (k * 3)
   have f1:=fr (k * 3+1)
   have f2:=fr (k * 3+2)
   have hS:=putXP_is hor2 k hkn s y
   have hP:XPPre (putXP w2 w.heap.size (k * 3) (.int .i64 y.id) (.bool y.crit) (.slice s.a1 s.n1 s.c1)) w.heap.size (k+1) xs:=by
    intro j hj
    by_cases hjk:j=k
    ·subst hjk
     rw [← HY.out]
     exact ⟨s,hS.cells,stab_keeps _ _ w2 _ (fun l hl _=>hS.other l (by omega)) (Nat.le_of_eq hS.size.symm) (hp2.mono (by omega))⟩
    ·obtain ⟨r,q2,q3⟩:=(HPRE.out.kept hgl hb2) j (by omega)
     have hx:=hS.old
     exact ⟨r,⟨(hx _ (by omega) (by omega)).trans q2.c0,(hx _ (by omega) (by omega)).trans q2.c1,(hx _ (by omega) (by omega)).trans q2.c2⟩,stab_keeps _ _ w2 _ (fun l hl _=>hS.other l (by omega)) (Nat.le_of_eq hS.size.symm) q3⟩
   have hB2:=hbr.trans (hb2.mono hs)
   have hB4:Below w.heap.size w (putXP w2 w.heap.size (k * 3) (.int .i64 y.id) (.bool y.crit) (.slice s.a1 s.n1 s.c1)):=putXP_below hB2 _ _ (Nat.le_refl _) _ _ _
   have FIN:Hid (_∧_∧_):=⟨hS.own,hP,hB4⟩
   have hgl2:w.heap.size<w2.heap.size:=by omega
   clear fr cx hS hP hB4 hB2 hor2 hp2 hb2 hvl HPRE HOV HP HK
   unfold XPv
   go_wp2
   go_roundw
   case rel=>exact ⟨k+1,by omega,by go_num,FIN.out.1,FIN.out.2.1,FIN.out.2.2⟩
   case measure=>simp [intOf]; omega
  ·obtain rfl:n=k:=by omega
   have HX:Hid (n≤9223372036854775807):=HK.out.max
   clear HOV HK
   go_wp2
   go_ret
   refine ⟨_,rfl,⟨fun W=>XPPre W w.heap.size n xs∧w.heap.size<W.heap.size,?_,⟨HPRE.out,hgl⟩,?_⟩,hbr⟩
   ·intro W W' e s r
    refine ⟨fun j hj=>?_,Nat.lt_of_lt_of_le r.2 s⟩
    obtain ⟨q,h1,h2⟩:=r.1 j hj
    have hbk:=e w.heap.size (Nat.le_refl _) r.2
    exact ⟨q,h1.of (fun i=>by simp [World.cell?,hbk]),stab_keeps _ _ W W' (fun l hl hl2=>e l (by omega) hl2) s h2⟩
   ·intro W r
    refine ⟨hlen.out,HX.out,fun k hk=>?_⟩
    obtain ⟨q,h1,h2⟩:=r.1 k hk
    exact ⟨w.heap.size,0,q,rfl,r.2,by rw [Nat.zero_add]; exact h1,h2.now⟩
open Go.RowKit
structure CE where
 ser:Int
 iss:List PT
 sub:List PT
 frm:Int
 til:Int
 key:Int × Int × Int
 ca:Bool
 room:Int
 uses:Int
 nms:List GE
 per:List GE
 den:List GE
 pol:List Int
 maps:List (Int × Int)
 need:Int
 nomap:Int
 noany:Int
 ext:List XP
 sig:List Int
instance:Inhabited CE:=⟨⟨0,[],[],0,0,(0,0,0),false,0,0,[],[],[],[],[],0,0,0,[],[]⟩⟩
structure CES where
 a1:Option Addr
 n1:Nat
 c1:Nat
 a2:Option Addr
 n2:Nat
 c2:Nat
 a3:Option Addr
 n3:Nat
 c3:Nat
 a4:Option Addr
 n4:Nat
 c4:Nat
 a5:Option Addr
 n5:Nat
 c5:Nat
 a6:Option Addr
 n6:Nat
 c6:Nat
 a7:Option Addr
 n7:Nat
 c7:Nat
 a8:Option Addr
 n8:Nat
 c8:Nat
 a9:Option Addr
 n9:Nat
 c9:Nat
 deriving Inhabited
def CEv (s:CES)(x:CE):Value:=.agg #[.int .i64 x.ser,.slice s.a1 s.n1 s.c1,.slice s.a2 s.n2 s.c2,.int .i64 x.frm,.int .i64 x.til,.int .i64 x.key.1,.int .u64 x.key.2.1,.int .i64 x.key.2.2,.bool x.ca,.int .i64 x.room,.int .i64 x.uses,.slice s.a3 s.n3 s.c3,.slice s.a4 s.n4 s.c4,.slice s.a5 s.n5 s.c5,.slice s.a6 s.n6 s.c6,.slice s.a7 s.n7 s.c7,.int .i64 x.need,.int .i64 x.nomap,.int .i64 x.noany,.slice s.a8 s.n8 s.c8,.slice s.a9 s.n9 s.c9]
structure CER (w:World)(s:CES)(x:CE):Prop where
 r1:Pts w s.a1 s.n1 x.iss
 r2:Pts w s.a2 s.n2 x.sub
 r3:Ges w s.a3 s.n3 x.nms
 r4:Ges w s.a4 s.n4 x.per
 r5:Ges w s.a5 s.n5 x.den
 r6:Row64 w s.a6 s.n6 x.pol
 m6:s.n6≤9223372036854775807
 r7:Pms w s.a7 s.n7 x.maps
 r8:XPs w s.a8 s.n8 x.ext
 r9:Row w s.a9 s.n9 x.sig
 m9:s.n9≤9223372036854775807
 nl9:s.a9=none→s.c9=0
theorem CER.kept {w w':World}{s:CES}{x:CE}(h:CER w s x)(hb:Below w.heap.size w w'):CER w' s x:=⟨h.r1.kept hb,h.r2.kept hb,h.r3.kept hb,h.r4.kept hb,h.r5.kept hb,h.r6.kept hb,h.m6,h.r7.kept hb,h.r8.kept hb,h.r9.kept hb,h.m9,h.nl9⟩
def CEZ (x:CE):Prop:=(x.iss.length≤1048576∧(∀ k,k<x.iss.length→(x.iss.getD k default).val.size≤1048576))∧(x.sub.length≤1048576∧(∀ k,k<x.sub.length→(x.sub.getD k default).val.size≤1048576))∧(x.nms.length≤1048576∧(∀ k,k<x.nms.length→GeOk (x.nms.getD k default)))∧(x.per.length≤1048576∧(∀ k,k<x.per.length→GeOk (x.per.getD k default)))∧(x.den.length≤1048576∧(∀ k,k<x.den.length→GeOk (x.den.getD k default)))∧(x.pol.length≤1048576)∧(x.maps.length≤1048576)∧(x.ext.length≤1048576∧(∀ k,k<x.ext.length→XPZ (x.ext.getD k default)))∧(x.sig.length≤1048576)
def CEZn (s:CES)(x:CE):Prop:=(s.n1≤1048576∧(∀ k,k<s.n1→(x.iss.getD k default).val.size≤1048576))∧(s.n2≤1048576∧(∀ k,k<s.n2→(x.sub.getD k default).val.size≤1048576))∧(s.n3≤1048576∧(∀ k,k<s.n3→GeOk (x.nms.getD k default)))∧(s.n4≤1048576∧(∀ k,k<s.n4→GeOk (x.per.getD k default)))∧(s.n5≤1048576∧(∀ k,k<s.n5→GeOk (x.den.getD k default)))∧(s.n6≤1048576)∧(s.n7≤1048576)∧(s.n8≤1048576∧(∀ k,k<s.n8→XPZ (x.ext.getD k default)))∧(s.n9≤1048576)
theorem CER.zn {w:World}{s:CES}{x:CE}(h:CER w s x):CEZ x↔CEZn s x:=by
 unfold CEZ CEZn
 rw [h.r1.len,h.r2.len,h.r3.len,h.r4.len,h.r5.len,h.r6.len,h.r7.len,h.r8.len,h.r9.len]
def CET (s:CES):Prop:=s.c1=s.n1∧s.c2=s.n2∧s.c3=s.n3∧s.c4=s.n4∧s.c5=s.n5∧s.c6=s.n6∧s.c7=s.n7∧s.c8=s.n8∧s.c9=s.n9
theorem szCert_k (s:CES)(x:CE)(lf:Int)(w:World)(h:CER w s x)(hl0:0≤lf)(hl1:lf≤1048576) :
  Calls Tryz.prog 8 #[CEv s x,.int .i64 lf] w fun e w'=>∃ r,e=.returned (.int .i64 r)∧(r<0∨(0≤r∧r≤1048576∧CEZ x))∧Below w.heap.size w w':=by
 obtain ⟨a1,n1,c1,a2,n2,c2,a3,n3,c3,a4,n4,c4,a5,n5,c5,a6,n6,c6,a7,n7,c7,a8,n8,c8,a9,n9,c9⟩:=s
 have HK:Hid (CER w ⟨a1,n1,c1,a2,n2,c2,a3,n3,c3,a4,n4,c4,a5,n5,c5,a6,n6,c6,a7,n7,c7,a8,n8,c8,a9,n9,c9⟩ x):=h
 have HIF:Hid (CEZ x↔CEZn ⟨a1,n1,c1,a2,n2,c2,a3,n3,c3,a4,n4,c4,a5,n5,c5,a6,n6,c6,a7,n7,c7,a8,n8,c8,a9,n9,c9⟩ x):=h.zn
 clear h
 show Calls Tryz.prog 8 #[.agg #[.int .i64 x.ser,.slice a1 n1 c1,.slice a2 n2 c2,.int .i64 x.frm,.int .i64 x.til,.int .i64 x.key.1,.int .u64 x.key.2.1,.int .i64 x.key.2.2,.bool x.ca,.int .i64 x.room,.int .i64 x.uses,.slice a3 n3 c3,.slice a4 n4 c4,.slice a5 n5 c5,.slice a6 n6 c6,.slice a7 n7 c7,.int .i64 x.need,.int .i64 x.nomap,.int .i64 x.noany,.slice a8 n8 c8,.slice a9 n9 c9],.int .i64 lf] w _
 obtain ⟨w0,hw0⟩:∃ w0,w0=w.alloc (.cells #[.int .i64 x.ser,.slice a1 n1 c1,.slice a2 n2 c2,.int .i64 x.frm,.int .i64 x.til,.int .i64 x.key.1,.int .u64 x.key.2.1,.int .i64 x.key.2.2,.bool x.ca,.int .i64 x.room,.int .i64 x.uses,.slice a3 n3 c3,.slice a4 n4 c4,.slice a5 n5 c5,.slice a6 n6 c6,.slice a7 n7 c7,.int .i64 x.need,.int .i64 x.nomap,.int .i64 x.noany,.slice a8 n8 c8,.slice a9 n9 c9] 34):=⟨_,rfl⟩
 have B0:Hid (Below w.heap.size w w0):=by show Below w.heap.size w w0; rw [hw0]; exact (Below.refl _ _).alloc (Nat.le_refl _) _
 have hh0:w0.heap[w.heap.size]? = some (.cells #[.int .i64 x.ser,.slice a1 n1 c1,.slice a2 n2 c2,.int .i64 x.frm,.int .i64 x.til,.int .i64 x.key.1,.int .u64 x.key.2.1,.int .i64 x.key.2.2,.bool x.ca,.int .i64 x.room,.int .i64 x.uses,.slice a3 n3 c3,.slice a4 n4 c4,.slice a5 n5 c5,.slice a6 n6 c6,.slice a7 n7 c7,.int .i64 x.need,.int .i64 x.nomap,.int .i64 x.noany,.slice a8 n8 c8,.slice a9 n9 c9] 34):=by rw [hw0]; exact heap_alloc_new w _
 have Y0:Hid (_=_):=hh0
 have l0:w.heap.size<w0.heap.size:=(Array.getElem?_eq_some_iff.1 hh0).1
 clear hh0
 have h0:0≤lf∧lf≤1048576:=⟨hl0,hl1⟩
 clear hl0 hl1
 go_enter Tryz.func8,Tryz.ntmps8
 go_upto_region 1 with fail
 rw [← hw0]
 clear hw0
 have q1:w0.cell? ⟨w.heap.size,1,none⟩=some (.slice a1 n1 c1):=qk Y0.out rfl
 go_wp2_with fail
 refine (szName_any a1 n1 c1 x.iss lf _ ((HK.out.kept B0.out).r1) h0.1 h0.2).mono ?_
 rintro e w1 ⟨r1,rfl,hr1,hb1⟩
 have B1:Hid (Below w.heap.size w w1):=B0.out.trans (hb1.mono B0.out.size)
 have Y1:Hid (w1.heap[w.heap.size]? = some (.cells #[.int .i64 x.ser,.slice a1 n1 c1,.slice a2 n2 c2,.int .i64 x.frm,.int .i64 x.til,.int .i64 x.key.1,.int .u64 x.key.2.1,.int .i64 x.key.2.2,.bool x.ca,.int .i64 x.room,.int .i64 x.uses,.slice a3 n3 c3,.slice a4 n4 c4,.slice a5 n5 c5,.slice a6 n6 c6,.slice a7 n7 c7,.int .i64 x.need,.int .i64 x.nomap,.int .i64 x.noany,.slice a8 n8 c8,.slice a9 n9 c9] 34)):=(hb1.block _ l0).trans Y0.out
 clear hb1
 have l1:w.heap.size<w1.heap.size:=(Array.getElem?_eq_some_iff.1 Y1.out).1
 clear q1
 by_cases hneg1:r1<0
 ·clear hr1
  go_wp2
  go_ret
  exact ⟨_,rfl,.inl (by decide),B1.out⟩
 have h1:0≤r1∧r1≤1048576:=by omega
 have HR1:Hid (n1≤1048576∧(∀ k,k<n1→(x.iss.getD k default).val.size≤1048576)):=by rcases hr1 with h | h; exact absurd h hneg1; exact h.2.2
 clear hr1
 have q2:w1.cell? ⟨w.heap.size,2,none⟩=some (.slice a2 n2 c2):=qk Y1.out rfl
 go_wp2_with fail
 refine (szName_any a2 n2 c2 x.sub r1 _ ((HK.out.kept B1.out).r2) h1.1 h1.2).mono ?_
 rintro e w2 ⟨r2,rfl,hr2,hb2⟩
 have B2:Hid (Below w.heap.size w w2):=B1.out.trans (hb2.mono B1.out.size)
 have Y2:Hid (w2.heap[w.heap.size]? = some (.cells #[.int .i64 x.ser,.slice a1 n1 c1,.slice a2 n2 c2,.int .i64 x.frm,.int .i64 x.til,.int .i64 x.key.1,.int .u64 x.key.2.1,.int .i64 x.key.2.2,.bool x.ca,.int .i64 x.room,.int .i64 x.uses,.slice a3 n3 c3,.slice a4 n4 c4,.slice a5 n5 c5,.slice a6 n6 c6,.slice a7 n7 c7,.int .i64 x.need,.int .i64 x.nomap,.int .i64 x.noany,.slice a8 n8 c8,.slice a9 n9 c9] 34)):=(hb2.block _ l1).trans Y1.out
 clear hb2
 have l2:w.heap.size<w2.heap.size:=(Array.getElem?_eq_some_iff.1 Y2.out).1
 clear q2
 by_cases hneg2:r2<0
 ·clear hr2
  go_wp2
  go_ret
  exact ⟨_,rfl,.inl (by decide),B2.out⟩
 have h2:0≤r2∧r2≤1048576:=by omega
 have HR2:Hid (n2≤1048576∧(∀ k,k<n2→(x.sub.getD k default).val.size≤1048576)):=by rcases hr2 with h | h; exact absurd h hneg2; exact h.2.2
 clear hr2
 have q11:w2.cell? ⟨w.heap.size,11,none⟩=some (.slice a3 n3 c3):=qk Y2.out rfl
 go_wp2_with fail
 refine (szGenNameS_any a3 n3 c3 x.nms r2 _ ((HK.out.kept B2.out).r3) h2.1 h2.2).mono ?_
 rintro e w3 ⟨r3,rfl,hr3,hb3⟩
 have B3:Hid (Below w.heap.size w w3):=B2.out.trans (hb3.mono B2.out.size)
 have Y3:Hid (w3.heap[w.heap.size]? = some (.cells #[.int .i64 x.ser,.slice a1 n1 c1,.slice a2 n2 c2,.int .i64 x.frm,.int .i64 x.til,.int .i64 x.key.1,.int .u64 x.key.2.1,.int .i64 x.key.2.2,.bool x.ca,.int .i64 x.room,.int .i64 x.uses,.slice a3 n3 c3,.slice a4 n4 c4,.slice a5 n5 c5,.slice a6 n6 c6,.slice a7 n7 c7,.int .i64 x.need,.int .i64 x.nomap,.int .i64 x.noany,.slice a8 n8 c8,.slice a9 n9 c9] 34)):=(hb3.block _ l2).trans Y2.out
 clear hb3
 have l3:w.heap.size<w3.heap.size:=(Array.getElem?_eq_some_iff.1 Y3.out).1
 clear q11
 by_cases hneg3:r3<0
 ·clear hr3
  go_wp2
  go_ret
  exact ⟨_,rfl,.inl (by decide),B3.out⟩
 have h3:0≤r3∧r3≤1048576:=by omega
 have HR3:Hid (n3≤1048576∧(∀ k,k<n3→GeOk (x.nms.getD k default))):=by rcases hr3 with h | h; exact absurd h hneg3; exact h.2.2
 clear hr3
 have q12:w3.cell? ⟨w.heap.size,12,none⟩=some (.slice a4 n4 c4):=qk Y3.out rfl
 go_wp2_with fail
 refine (szGenNameS_any a4 n4 c4 x.per r3 _ ((HK.out.kept B3.out).r4) h3.1 h3.2).mono ?_
 rintro e w4 ⟨r4,rfl,hr4,hb4⟩
 have B4:Hid (Below w.heap.size w w4):=B3.out.trans (hb4.mono B3.out.size)
 have Y4:Hid (w4.heap[w.heap.size]? = some (.cells #[.int .i64 x.ser,.slice a1 n1 c1,.slice a2 n2 c2,.int .i64 x.frm,.int .i64 x.til,.int .i64 x.key.1,.int .u64 x.key.2.1,.int .i64 x.key.2.2,.bool x.ca,.int .i64 x.room,.int .i64 x.uses,.slice a3 n3 c3,.slice a4 n4 c4,.slice a5 n5 c5,.slice a6 n6 c6,.slice a7 n7 c7,.int .i64 x.need,.int .i64 x.nomap,.int .i64 x.noany,.slice a8 n8 c8,.slice a9 n9 c9] 34)):=(hb4.block _ l3).trans Y3.out
 clear hb4
 have l4:w.heap.size<w4.heap.size:=(Array.getElem?_eq_some_iff.1 Y4.out).1
 clear q12
 by_cases hneg4:r4<0
 ·clear hr4
  go_wp2
  go_ret
  exact ⟨_,rfl,.inl (by decide),B4.out⟩
 have h4:0≤r4∧r4≤1048576:=by omega
 have HR4:Hid (n4≤1048576∧(∀ k,k<n4→GeOk (x.per.getD k default))):=by rcases hr4 with h | h; exact absurd h hneg4; exact h.2.2
 clear hr4
 have q13:w4.cell? ⟨w.heap.size,13,none⟩=some (.slice a5 n5 c5):=qk Y4.out rfl
 go_wp2_with fail
 refine (szGenNameS_any a5 n5 c5 x.den r4 _ ((HK.out.kept B4.out).r5) h4.1 h4.2).mono ?_
 rintro e w5 ⟨r5,rfl,hr5,hb5⟩
 have B5:Hid (Below w.heap.size w w5):=B4.out.trans (hb5.mono B4.out.size)
 have Y5:Hid (w5.heap[w.heap.size]? = some (.cells #[.int .i64 x.ser,.slice a1 n1 c1,.slice a2 n2 c2,.int .i64 x.frm,.int .i64 x.til,.int .i64 x.key.1,.int .u64 x.key.2.1,.int .i64 x.key.2.2,.bool x.ca,.int .i64 x.room,.int .i64 x.uses,.slice a3 n3 c3,.slice a4 n4 c4,.slice a5 n5 c5,.slice a6 n6 c6,.slice a7 n7 c7,.int .i64 x.need,.int .i64 x.nomap,.int .i64 x.noany,.slice a8 n8 c8,.slice a9 n9 c9] 34)):=(hb5.block _ l4).trans Y4.out
 clear hb5
 have l5:w.heap.size<w5.heap.size:=(Array.getElem?_eq_some_iff.1 Y5.out).1
 clear q13
 by_cases hneg5:r5<0
 ·clear hr5
  go_wp2
  go_ret
  exact ⟨_,rfl,.inl (by decide),B5.out⟩
 have h5:0≤r5∧r5≤1048576:=by omega
 have HR5:Hid (n5≤1048576∧(∀ k,k<n5→GeOk (x.den.getD k default))):=by rcases hr5 with h | h; exact absurd h hneg5; exact h.2.2
 clear hr5
 have q14:w5.cell? ⟨w.heap.size,14,none⟩=some (.slice a6 n6 c6):=qk Y5.out rfl
 go_wp2_with fail
 refine (szInt64S_q a6 n6 c6 r5 _ HK.out.m6 h5.1 h5.2).mono ?_
 rintro e w6 ⟨r6,rfl,hr6,hw6⟩
 subst hw6
 have B6:Hid (Below w.heap.size w w5):=B5.out
 have Y6:Hid (w5.heap[w.heap.size]? = some (.cells #[.int .i64 x.ser,.slice a1 n1 c1,.slice a2 n2 c2,.int .i64 x.frm,.int .i64 x.til,.int .i64 x.key.1,.int .u64 x.key.2.1,.int .i64 x.key.2.2,.bool x.ca,.int .i64 x.room,.int .i64 x.uses,.slice a3 n3 c3,.slice a4 n4 c4,.slice a5 n5 c5,.slice a6 n6 c6,.slice a7 n7 c7,.int .i64 x.need,.int .i64 x.nomap,.int .i64 x.noany,.slice a8 n8 c8,.slice a9 n9 c9] 34)):=Y5.out
 have l6:w.heap.size<w5.heap.size:=(Array.getElem?_eq_some_iff.1 Y6.out).1
 clear q14
 by_cases hneg6:r6<0
 ·clear hr6
  go_wp2
  go_ret
  exact ⟨_,rfl,.inl (by decide),B6.out⟩
 have h6:0≤r6∧r6≤1048576:=by omega
 have HR6:Hid (n6≤1048576):=by rcases hr6 with h | h; exact absurd h hneg6; exact h.2.2
 clear hr6
 have q15:w5.cell? ⟨w.heap.size,15,none⟩=some (.slice a7 n7 c7):=qk Y6.out rfl
 go_wp2_with fail
 refine (szPolMapS_any a7 n7 c7 r6 _ (HK.out.r7).max h6.1 h6.2).mono ?_
 rintro e w7 ⟨r7,rfl,hr7,hw7⟩
 subst hw7
 have B7:Hid (Below w.heap.size w w5):=B6.out
 have Y7:Hid (w5.heap[w.heap.size]? = some (.cells #[.int .i64 x.ser,.slice a1 n1 c1,.slice a2 n2 c2,.int .i64 x.frm,.int .i64 x.til,.int .i64 x.key.1,.int .u64 x.key.2.1,.int .i64 x.key.2.2,.bool x.ca,.int .i64 x.room,.int .i64 x.uses,.slice a3 n3 c3,.slice a4 n4 c4,.slice a5 n5 c5,.slice a6 n6 c6,.slice a7 n7 c7,.int .i64 x.need,.int .i64 x.nomap,.int .i64 x.noany,.slice a8 n8 c8,.slice a9 n9 c9] 34)):=Y6.out
 have l7:w.heap.size<w5.heap.size:=(Array.getElem?_eq_some_iff.1 Y7.out).1
 clear q15
 by_cases hneg7:r7<0
 ·clear hr7
  go_wp2
  go_ret
  exact ⟨_,rfl,.inl (by decide),B7.out⟩
 have h7:0≤r7∧r7≤1048576:=by omega
 have HR7:Hid (n7≤1048576):=by rcases hr7 with h | h; exact absurd h hneg7; exact h.2.2
 clear hr7
 have q19:w5.cell? ⟨w.heap.size,19,none⟩=some (.slice a8 n8 c8):=qk Y7.out rfl
 go_wp2_with fail
 refine (szExtS_k a8 n8 c8 x.ext r7 _ ((HK.out.kept B7.out).r8) h7.1 h7.2).mono ?_
 rintro e w8 ⟨r8,rfl,hr8,hb8⟩
 have B8:Hid (Below w.heap.size w w8):=B7.out.trans (hb8.mono B7.out.size)
 have Y8:Hid (w8.heap[w.heap.size]? = some (.cells #[.int .i64 x.ser,.slice a1 n1 c1,.slice a2 n2 c2,.int .i64 x.frm,.int .i64 x.til,.int .i64 x.key.1,.int .u64 x.key.2.1,.int .i64 x.key.2.2,.bool x.ca,.int .i64 x.room,.int .i64 x.uses,.slice a3 n3 c3,.slice a4 n4 c4,.slice a5 n5 c5,.slice a6 n6 c6,.slice a7 n7 c7,.int .i64 x.need,.int .i64 x.nomap,.int .i64 x.noany,.slice a8 n8 c8,.slice a9 n9 c9] 34)):=(hb8.block _ l7).trans Y7.out
 clear hb8
 have l8:w.heap.size<w8.heap.size:=(Array.getElem?_eq_some_iff.1 Y8.out).1
 clear q19
 by_cases hneg8:r8<0
 ·clear hr8
  go_wp2
  go_ret
  exact ⟨_,rfl,.inl (by decide),B8.out⟩
 have h8:0≤r8∧r8≤1048576:=by omega
 have HR8:Hid (n8≤1048576∧(∀ k,k<n8→XPZ (x.ext.getD k default))):=by rcases hr8 with h | h; exact absurd h hneg8; exact h.2.2
 clear hr8
 have q20:w8.cell? ⟨w.heap.size,20,none⟩=some (.slice a9 n9 c9):=qk Y8.out rfl
 go_wp2_with fail
 refine (szByteS_k a9 n9 c9 r8 _ h8.1 h8.2 HK.out.m9).mono ?_
 rintro e w9 ⟨r9,rfl,hr9,hw9⟩
 subst hw9
 have B9:Hid (Below w.heap.size w w8):=B8.out
 have Y9:Hid (w8.heap[w.heap.size]? = some (.cells #[.int .i64 x.ser,.slice a1 n1 c1,.slice a2 n2 c2,.int .i64 x.frm,.int .i64 x.til,.int .i64 x.key.1,.int .u64 x.key.2.1,.int .i64 x.key.2.2,.bool x.ca,.int .i64 x.room,.int .i64 x.uses,.slice a3 n3 c3,.slice a4 n4 c4,.slice a5 n5 c5,.slice a6 n6 c6,.slice a7 n7 c7,.int .i64 x.need,.int .i64 x.nomap,.int .i64 x.noany,.slice a8 n8 c8,.slice a9 n9 c9] 34)):=Y8.out
 have l9:w.heap.size<w8.heap.size:=(Array.getElem?_eq_some_iff.1 Y9.out).1
 clear q20
 by_cases hneg9:r9<0
 ·clear hr9
  go_wp2
  go_ret
  exact ⟨_,rfl,.inl (by decide),B9.out⟩
 have h9:0≤r9∧r9≤1048576:=by omega
 have HR9:Hid (n9≤1048576):=by rcases hr9 with h | h; exact absurd h hneg9; exact h.2.2
 clear hr9
 go_wp2
 go_ret
 exact ⟨_,rfl,.inr ⟨h9.1,h9.2,HIF.out.2 ⟨HR1.out,HR2.out,HR3.out,HR4.out,HR5.out,HR6.out,HR7.out,HR8.out,HR9.out⟩⟩,B9.out⟩
end Go.Proofs.YtmdfbnlgfhjnoaaGreatDoor
