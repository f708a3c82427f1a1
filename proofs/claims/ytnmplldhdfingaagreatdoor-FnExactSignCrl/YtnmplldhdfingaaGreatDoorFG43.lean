import Derived.Test.YtnmplldhdfingaaGreatDoorFG37
import Derived.Test.YtnmplldhdfingaaGreatDoorFG42
set_option maxRecDepth 10000
set_option maxHeartbeats 8000000
set_option linter.unusedVariables false
namespace Go.Proofs.YtnmplldhdfingaaGreatDoor
open Go.RowKit Go.Sort
theorem infoSizeSec:(Tryz.prog.info? 39).map (·.size)=some 4:=by kernel_rfl
theorem results_crl3 {fn:Func}{t u v:Tmp}(h:fn.results=#[.cell t 38,.cell u 39,.tmp v])(tmps:Array Value)(g g2:Nat)(ht:tmps.getD t undef=.pointer (some ⟨g,0,none⟩))(hu:tmps.getD u undef=.pointer (some ⟨g2,0,none⟩))(q:Value)(hv:tmps.getD v undef=q)(w:World)(cs ds:Array Value)(hs:cs.size=9)(hd:ds.size=4)
  (hb:w.heap[g]? = some (.cells cs 38 (0,0))) (hb2:w.heap[g2]? = some (.cells ds 39 (0,0))):(results fn tmps).run Tryz.prog w=.ok (.tuple #[.agg cs,.agg ds,q]) w:=by
 have h1:=run_loadVar_row (P:=Tryz.prog) w g 38 38 cs (0,0) _ hb Tryz.underlying38 rfl (by rw [infoSizeCrl,hs])
 have h2:=run_loadVar_row (P:=Tryz.prog) w g2 39 39 ds (0,0) _ hb2 Tryz.underlying39 rfl (by rw [infoSizeSec,hd])
 have ht':tmps[t]?.getD undef=.pointer (some ⟨g,0,none⟩):=by simpa using ht
 have hu':tmps[u]?.getD undef=.pointer (some ⟨g2,0,none⟩):=by simpa using hu
 have hv':tmps[v]?.getD undef=q:=by simpa using hv
 simp [results,h,ht',hu',hv',asAddr,h1,h2]
theorem four_boxes (w:World)(o0 o1 o2 o3:Obj):((((w.alloc o0).alloc o1).alloc o2).alloc o3).heap[w.heap.size]? = some o0∧((((w.alloc o0).alloc o1).alloc o2).alloc o3).heap[w.heap.size+1]? = some o1∧((((w.alloc o0).alloc o1).alloc o2).alloc o3).heap[w.heap.size+2]? = some o2∧((((w.alloc o0).alloc o1).alloc o2).alloc o3).heap[w.heap.size+3]? = some o3:=by
 obtain ⟨h0,h1,h2⟩:=three_blocks' w o0 o1 o2
 have s3:(((w.alloc o0).alloc o1).alloc o2).heap.size=w.heap.size+3:=by simp
 exact ⟨(alloc_old' _ o3 _ (by omega)).trans h0,(alloc_old' _ o3 _ (by omega)).trans h1,(alloc_old' _ o3 _ (by omega)).trans h2,by rw [← s3]; exact heap_alloc_new _ o3⟩
theorem four_belowS (w:World)(o0 o1 o2 o3:Obj):Below w.heap.size w ((((w.alloc o0).alloc o1).alloc o2).alloc o3) :=
 (((((Below.refl _ _).alloc (Nat.le_refl _) _).alloc (by simp) _).alloc (by simp; omega) _).alloc (by simp; omega) _)
def sgA (x:CP)(sc k h nx:Int):List Int × Sc4 × Int:=saV sc k h nx (crBody (noSig x))
def SgnR (x:CP)(m0 n0:Nat)(sc k h nx:Int)(z:CP)(m n r:Nat)(t:Sc4)(cd:Int):Prop :=
 (¬ crlP (noSig x)∧z=zeroC∧m=0∧n=0∧r=0∧t=(0,0,0,0)∧cd=31)∨(crlP (noSig x)∧(sgA x sc k h nx).2.2≠0∧z=zeroC∧m=0∧n=0∧r=0∧t=(0,0,0,0)∧cd=(sgA x sc k h nx).2.2)∨(crlP (noSig x)∧(sgA x sc k h nx).2.2=0∧z=withS x (sgA x sc k h nx).1∧m=m0∧n=n0∧r=(sgA x sc k h nx).1.length∧t=(sgA x sc k h nx).2.1∧cd=0)
theorem sgn_bad {x:CP}{m0 n0:Nat}{sc k h nx:Int}(hp:¬ crlP (noSig x)){z:CP}{m n r:Nat}{t:Sc4}{cd:Int}(hr:SgnR x m0 n0 sc k h nx z m n r t cd):z=zeroC∧m=0∧n=0∧r=0∧t=(0,0,0,0)∧cd=31:=by
 rcases hr with q | q | q
 ·exact q.2
 all_goals exact absurd q.1 hp
theorem sgn_not {x:CP}{m0 n0:Nat}{sc k h nx:Int}(hp:crlP (noSig x))(hc:(sgA x sc k h nx).2.2≠0){z:CP}{m n r:Nat}{t:Sc4}{cd:Int}(hr:SgnR x m0 n0 sc k h nx z m n r t cd):z=zeroC∧m=0∧n=0∧r=0∧t=(0,0,0,0)∧cd=(sgA x sc k h nx).2.2:=by
 rcases hr with q | q | q
 ·exact absurd hp q.1
 ·exact q.2.2
 ·exact absurd q.2.1 hc
theorem sgn_made {x:CP}{m0 n0:Nat}{sc k h nx:Int}(hp:crlP (noSig x))(hc:(sgA x sc k h nx).2.2=0){z:CP}{m n r:Nat}{t:Sc4}{cd:Int}(hr:SgnR x m0 n0 sc k h nx z m n r t cd):z=withS x (sgA x sc k h nx).1∧m=m0∧n=n0∧r=(sgA x sc k h nx).1.length∧t=(sgA x sc k h nx).2.1∧cd=0:=by
 rcases hr with q | q | q
 ·exact absurd hp q.1
 ·exact absurd hc q.2.1
 ·exact q.2.2
theorem sgn_ex (x:CP)(m0 n0:Nat)(sc k h nx:Int):∃ z m n r t cd,SgnR x m0 n0 sc k h nx z m n r t cd:=by
 by_cases hp:crlP (noSig x)
 ·by_cases hc:(sgA x sc k h nx).2.2=0
  ·exact ⟨_,_,_,_,_,_,.inr (.inr ⟨hp,hc,rfl,rfl,rfl,rfl,rfl,rfl⟩)⟩
  ·exact ⟨_,_,_,_,_,_,.inr (.inl ⟨hp,hc,rfl,rfl,rfl,rfl,rfl,rfl⟩)⟩
 ·exact ⟨_,_,_,_,_,_,.inl ⟨hp,rfl,rfl,rfl,rfl,rfl,rfl⟩⟩
def AnGS (z:CP)(m n r:Nat)(t:Sc4)(cd:Int)(w:World)(e:Ending)(w':World):Prop :=
 ∃ p1 f1 p2 f2 p3 f3,e=.returned (.tuple #[crv p1 m f1 p2 n f2 p3 r f3 z,scw t,.int .i64 cd])∧AgS w' p1 m f1 p2 n f2 p3 r f3 z∧Below w.heap.size w w'
def AnGI (z:CP)(m n r:Nat)(t:Sc4)(cd:Int)(w:World)(e:Ending)(w':World):Prop :=
 ∃ p1 f1 p2 f2 p3 f3,e=.returned (.tuple #[crv p1 m f1 p2 n f2 p3 r f3 z,scw t,.int .i64 cd])∧AgI w.heap.size w' p1 m f1 p2 n f2 p3 r f3 z∧Below w.heap.size w w'
def SgI (x:CP)(m0 n0:Nat)(sc k h nx:Int)(w:World)(e:Ending)(w':World):Prop:=∀ z m n r t cd,SgnR x m0 n0 sc k h nx z m n r t cd→AnGI z m n r t cd w e w'
def SgS (x:CP)(m0 n0:Nat)(sc k h nx:Int)(w:World)(e:Ending)(w':World):Prop:=∀ z m n r t cd,SgnR x m0 n0 sc k h nx z m n r t cd→AnGS z m n r t cd w e w'
theorem sgn_out {x:CP}{n1 n2 n3:Nat}{sc k h nx:Int}(hz:CpOk n1 n2 n3 x):∃ z m n r t cd,CpOk m n r z∧(∀ w e w',SgS x n1 n2 sc k h nx w e w'→AnGS z m n r t cd w e w')∧(∀ w e w',SgI x n1 n2 sc k h nx w e w'→AnGI z m n r t cd w e w'):=by
 obtain ⟨z,m,n,r,t,cd,hr⟩:=sgn_ex x n1 n2 sc k h nx
 refine ⟨z,m,n,r,t,cd,?_,fun w e w' q=>q _ _ _ _ _ _ hr,fun w e w' q=>q _ _ _ _ _ _ hr⟩
 have h0:CpOk 0 0 0 zeroC:=⟨by omega,fun k hk=>absurd hk (Nat.not_lt_zero _),by omega,fun k hk=>absurd hk (Nat.not_lt_zero _),by omega⟩
 rcases hr with ⟨_,rfl,rfl,rfl,rfl,_⟩ | ⟨_,_,rfl,rfl,rfl,rfl,_⟩ | ⟨_,_,rfl,rfl,rfl,rfl,_⟩
 ·exact h0
 ·exact h0
 ·exact ⟨hz.1,hz.2.1,hz.2.2.1,hz.2.2.2.1,by have:=saV_len sc k h nx (crBody (noSig x)); unfold sgA; omega⟩
def HTree:Prop:=∀ (seed h next:Int) (am:Option Addr) (n c:Nat) (bs:List Int) (w:World),U64 seed→Row w am n bs→n≤1000000000000→Calls Tryz.prog 47 #[tkv seed h next,.slice am n c] w fun e w'=>∃ v,e=.returned v∧SgR seed h next bs w.heap.size w' v∧Below w.heap.size w w'
theorem AgI.kept {B:Nat}{w w':World}{p1:Option Addr}{m f1:Nat}{p2:Option Addr}{n f2:Nat}{p3:Option Addr}{r f3:Nat}{z:CP}(h:AgI B w p1 m f1 p2 n f2 p3 r f3 z)(hb:Below w.heap.size w w'):AgI B w' p1 m f1 p2 n f2 p3 r f3 z:=by
 obtain ⟨sl,q,v1,pv,vs,ho⟩:=h.ex
 exact ⟨sl,q.kept hb,v1,pv,vs,ho.below hb⟩
theorem AgI.touched {B g tg:Nat}{w w2:World}{p1:Option Addr}{m f1:Nat}{p2:Option Addr}{n f2:Nat}{p3:Option Addr}{r f3:Nat}{z:CP}{cs:Array Value}{fr:Nat × Nat}(h:AgI B w p1 m f1 p2 n f2 p3 r f3 z)(hg:w.heap[g]? = some (.cells cs tg fr))(h1:tg≠132∧tg≠74)(h3:tg≠5)(ht:Touch g (g+1) w w2):AgI B w2 p1 m f1 p2 n f2 p3 r f3 z:=by
 obtain ⟨sl,q,v1,pv,vs,ho⟩:=h.ex
 exact ⟨sl,q.typed hg h1.1 h1.2 h3 ht,v1,pv,vs,ho.typed hg h1.1 h1.2 h3 ht⟩
theorem AgI.lower {B B':Nat}{w:World}{p1:Option Addr}{m f1:Nat}{p2:Option Addr}{n f2:Nat}{p3:Option Addr}{r f3:Nat}{z:CP}(h:AgI B w p1 m f1 p2 n f2 p3 r f3 z)(hB:B'≤B):AgI B' w p1 m f1 p2 n f2 p3 r f3 z:=by
 obtain ⟨sl,q,v1,pv,vs,ho⟩:=h.ex
 exact ⟨sl,q.lower hB,v1,pv,vs,ho.lowerC hB⟩
theorem agI_of {B:Nat}{w:World}{p1:Option Addr}{m f1:Nat}{p2:Option Addr}{n f2:Nat}{p3:Option Addr}{r f3:Nat}{z:CP}{sl:Nat→Sl}(hc:Crs w p1 m p2 n p3 r z)(ho:OwnC B w p1 m f1 p2 n f2 p3 r f3 (flPt z.parts) sl (fun j=>flPt (z.ents.getD j default).parts) (flG z.ents sl n) z.sig):AgI B w p1 m f1 p2 n f2 p3 r f3 z :=
 ⟨sl,⟨ho.nm,ho.en,ho.sg,hc.nm.len,hc.en.len,fun j hj=>own_slen ho.en hc.en j hj⟩,_,_,_,ho⟩
end Go.Proofs.YtnmplldhdfingaaGreatDoor
