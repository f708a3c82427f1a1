import Derived.Test.YtnmplldhdfingaaGreatDoorFG44
import Derived.Test.YtnmplldhdfingaaGreatDoorFG45
set_option maxRecDepth 10000
set_option maxHeartbeats 8000000
set_option linter.unusedVariables false
namespace Go.Proofs.YtnmplldhdfingaaGreatDoor
open Go.RowKit Go.Sort
theorem toSecret_raw (a b c d:Int)(w:World):Calls Tryz.prog 7 #[.agg #[.int .i64 a,.int .u64 b,.int .i64 c,.int .i64 d]] w fun e w'=>e=.returned (.agg #[.int .i64 a,.int .u64 b,.int .i64 c,.int .i64 d])∧Below w.heap.size w w':=toSecret_any a b c d w
theorem eqSecret_raw (t1 t2 t3 t4:Int)(w:World):Calls Tryz.prog 10 #[.agg #[.int .i64 t1,.int .u64 t2,.int .i64 t3,.int .i64 t4],.agg #[.int .i64 t1,.int .u64 t2,.int .i64 t3,.int .i64 t4]] w fun e w'=>e=.returned (.bool true)∧Below w.heap.size w w':=eqSecret_same (t1,t2,t3,t4) w
theorem ownsRow_in2 {w:World}{B t s n c g g2 tg t2:Nat}{a:Option Addr}{vs:List Value}{cs ds:Array Value}{fr f2:Nat × Nat}(h:w.ownsRow B t s (.slice a n c) n vs)(hg:w.heap[g]? = some (.cells cs tg fr))(hg2:w.heap[g2]? = some (.cells ds t2 f2))(n1:tg≠t)(n2:t2≠t)(b:Nat)(e:a=some ⟨b,0,none⟩):B≤b∧b<w.heap.size∧b≠g∧b≠g2:=by
 have h1:=ownsRow_in h b e
 refine ⟨h1.1,h1.2,?_,?_⟩
 all_goals
  rintro rfl
  rcases h.2 with ⟨q,_⟩ | ⟨g',c1,cur,q,hb,hh,r⟩
  ·simp only [Value.slice.injEq] at q
   rw [e] at q
   simp at q
  ·simp only [Value.slice.injEq] at q
   have e2:=q.1.symm.trans e
   simp only [Option.some.injEq,Addr.mk.injEq] at e2
   rw [e2.1] at hh
   first
    | (
      rw [hg] at hh
      simp only [Option.some.injEq,Obj.cells.injEq] at hh
      exact n1 hh.2.1)
    | (
      rw [hg2] at hh
      simp only [Option.some.injEq,Obj.cells.injEq] at hh
      exact n2 hh.2.1)
theorem OwnC.inC2 {B:Nat}{w:World}{a1:Option Addr}{n1 c1:Nat}{a2:Option Addr}{n2 c2:Nat}{a3:Option Addr}{n3 c3:Nat}{v1:List Value}{sl:Nat→Sl}{pv:Nat→List Value}{vs:List Value}{bs:List Int}{g g2 tg t2:Nat}{cs ds:Array Value}{fr f2:Nat × Nat}(h:OwnC B w a1 n1 c1 a2 n2 c2 a3 n3 c3 v1 sl pv vs bs)(hg:w.heap[g]? = some (.cells cs tg fr))(hg2:w.heap[g2]? = some (.cells ds t2 f2))(m1:tg≠132∧tg≠74∧tg≠5)(m2:t2≠132∧t2≠74∧t2≠5):InC (fun i=>B≤i∧i<w.heap.size∧i≠g∧i≠g2) a1 n1 a2 n2 a3 sl :=
 ⟨fun b e hp=>ownsRow_in2 (h.nm hp) hg hg2 m1.1 m2.1 b e,fun b e _=>ownsRow_in2 h.en.row hg hg2 m1.2.1 m2.2.1 b e,fun j hj b e hp=>ownsRow_in2 (h.en.each j hj hp) hg hg2 m1.1 m2.1 b e,fun b e=>ownsRow_in2 h.sg.row hg hg2 m1.2.2 m2.2.2 b e⟩
open Go.ChangeShapes Go.WideShapes Go.ChangeAt Go.RowKit
def OpensG (W:World)(y:Option Addr × Nat × Nat × GP)(cs:List Value):Prop:=cs = [.slice y.1 y.2.1 y.2.2.1,.int .i64 y.2.2.2.ser,.int .i64 y.2.2.2.tm,.int .i64 y.2.2.2.rs]∧Pts W y.1 y.2.1 y.2.2.2.parts
set_option maxRecDepth 20000 in
theorem open_gone {H:Type}{enc:TypeId × Value→H}{W:World}{fuel:Nat}{cs:List Value}{x:DataW H × List MemPlace}(h:DataW.trod enc Tryz.prog W 0 (fun _=>true) true fuel 67 cs=some x):∃ y,OpensG W y cs:=by
 obtain ⟨xs,m,rfl,_,hl,hxl,hf⟩:=DataW.trod_struct Tryz.underlying67 h
 have hl2:cs.length=4:=hl.trans (by kernel_rfl)
 have hx2:xs.length=4:=hxl
 obtain ⟨c0,c1,c2,c3,rfl⟩:∃ c0 c1 c2 c3,cs = [c0,c1,c2,c3]:=by
  match cs,hl2 with
  | [c0,c1,c2,c3],_=>exact ⟨c0,c1,c2,c3,rfl⟩
 obtain ⟨x0,x1,x2,x3,rfl⟩:∃ c0 c1 c2 c3,xs = [c0,c1,c2,c3]:=by
  match xs,hx2 with
  | [c0,c1,c2,c3],_=>exact ⟨c0,c1,c2,c3,rfl⟩
 have e0:Tryz.prog.cellsOf 24=1:=by kernel_rfl
 have f0:DataW.trod enc Tryz.prog W 0 (fun _=>true) true m 24 ((([c0,c1,c2,c3]:List Value).drop 0).take (Tryz.prog.cellsOf 24))=some x0:=hf 0 _ rfl
 rw [e0] at f0
 have e1:Tryz.prog.cellsOf 2=1:=by kernel_rfl
 have f1:DataW.trod enc Tryz.prog W 0 (fun _=>true) true m 2 ((([c0,c1,c2,c3]:List Value).drop 1).take (Tryz.prog.cellsOf 2))=some x1:=hf 1 _ rfl
 rw [e1] at f1
 have e2:Tryz.prog.cellsOf 2=1:=by kernel_rfl
 have f2:DataW.trod enc Tryz.prog W 0 (fun _=>true) true m 2 ((([c0,c1,c2,c3]:List Value).drop 2).take (Tryz.prog.cellsOf 2))=some x2:=hf 2 _ rfl
 rw [e2] at f2
 have e3:Tryz.prog.cellsOf 2=1:=by kernel_rfl
 have f3:DataW.trod enc Tryz.prog W 0 (fun _=>true) true m 2 ((([c0,c1,c2,c3]:List Value).drop 3).take (Tryz.prog.cellsOf 2))=some x3:=hf 3 _ rfl
 rw [e3] at f3
 obtain ⟨a,n,c,ys,h0,hp⟩:=open_name f0
 obtain ⟨n1,h1,_,_⟩:=DataW.trod_int Tryz.underlying2 f1
 obtain ⟨n2,h2,_,_⟩:=DataW.trod_int Tryz.underlying2 f2
 obtain ⟨n3,h3,_,_⟩:=DataW.trod_int Tryz.underlying2 f3
 simp at h0 h1 h2 h3
 subst h0 h1 h2 h3
 exact ⟨(a,n,c,⟨ys,n1,n2,n3⟩),rfl,hp⟩
set_option maxRecDepth 20000 in
theorem open_gones {H:Type}{enc:TypeId × Value→H}{W:World}{fuel:Nat}{cs:List Value}{x:DataW H × List MemPlace}(h:DataW.trod enc Tryz.prog W 0 (fun _=>true) true fuel 25 cs=some x):∃ a n c xs,cs = [.slice a n c]∧Gns W a n xs:=by
 rcases DataW.trod_slice Tryz.underlying25 h with ⟨rfl,_⟩ | ⟨a,len,cap,elems,rest,n,rfl,rfl,_,_,hl,hm,hlen,hel,_,_⟩
 ·exact ⟨none,0,0,[],rfl,⟨rfl,by decide,fun k hk=>absurd hk (by omega)⟩⟩
 ·have ec:Tryz.prog.cellsOf 67=4:=by kernel_rfl
  rw [ec] at hel
  have each:∀ i,i<len→∃ y:Option Addr × Nat × Nat × GP,∃ cs',W.cells? 0 (a.add (i * 4)) 4=some cs'∧OpensG W y cs':=by
   intro i hi
   have he:=hel i hi
   rw [List.getElem?_eq_getElem (by omega)] at he
   cases hc:W.cells? 0 (a.add (i * 4)) 4 with
   | none=>rw [hc] at he; cases he
   | some cs' =>
    rw [hc] at he
    obtain ⟨y,hy⟩:=open_gone he
    exact ⟨y,cs',rfl,hy⟩
  obtain ⟨y,hy⟩:=Go.Deep.choose_lt each
  have hm':len≤9223372036854775807:=by unfold maxLen at hm; omega
  refine ⟨some a,len,cap,(List.range len).map (fun i=>(y i).2.2.2),rfl,⟨by simp,hm',fun k hk=>?_⟩⟩
  obtain ⟨cs',hcs,rfl,hnk⟩:=hy k hk
  obtain ⟨_,_,hcell⟩:=World.cells?_some hcs
  obtain ⟨b,off,spot⟩:=a
  have hs:spot=none:=by
   obtain ⟨cs0,hcs0,_⟩:=hy 0 (by omega)
   obtain ⟨_,hl0,hcell0⟩:=World.cells?_some hcs0
   have h00:=hcell0 0 (by omega)
   rw [List.getElem?_eq_getElem (by omega)] at h00
   simpa [Addr.add] using World.cell?_spot h00
  subst hs
  have ey:((List.range len).map (fun i=>(y i).2.2.2)).getD k default=(y k).2.2.2:=by simp [hk]
  rw [ey]
  have cc:∀ j,j<4→W.cell? ⟨b,off+k * 4+j,none⟩ = [Value.slice (y k).1 (y k).2.1 (y k).2.2.1,.int .i64 (y k).2.2.2.ser,.int .i64 (y k).2.2.2.tm,.int .i64 (y k).2.2.2.rs][j]?:=by
   intro j hj
   have:=hcell j hj
   rw [Addr.add_lit,Addr.add_lit] at this
   exact this
  exact ⟨b,off,_,_,_,rfl,World.block_lt_of_cell? W _ (cc 0 (by omega)),⟨cc 0 (by omega),cc 1 (by omega),cc 2 (by omega),cc 3 (by omega)⟩,hnk⟩
set_option maxRecDepth 20000 in
theorem open_sig {H:Type}{enc:TypeId × Value→H}{W:World}{fuel:Nat}{cs:List Value}{x:DataW H × List MemPlace}(h:DataW.trod enc Tryz.prog W 0 (fun _=>true) true fuel 26 cs=some x):∃ a n c bs,cs = [.slice a n c]∧Row W a n bs∧n≤9223372036854775807:=by
 rcases open_ints Tryz.underlying26 Tryz.underlying5 (by kernel_rfl) h with ⟨rfl,_⟩ | ⟨a,len,cap,zs,rfl,_,hl,hm,hz,_,hc,hw⟩
 ·exact ⟨none,0,0,[],rfl,⟨rfl,fun k hk=>absurd hk (Nat.not_lt_zero _),by simp⟩,by decide⟩
 ·have hr:IsRow .u8 W (some a) len cap zs:=.inr ⟨a,rfl,hl,hm,by simpa using hz,hc,hw⟩
  exact ⟨some a,len,cap,zs.take len,rfl,hr.row.1,by unfold maxLen at hm; omega⟩
open Go.ChangeShapes Go.WideShapes Go.ChangeAt Go.RowKit
set_option maxRecDepth 20000 in
theorem open_crlW {H:Type}{enc:TypeId × Value→H}{W:World}{fuel:Nat}{cs:List Value}{x:DataW H × List MemPlace}(h:DataW.trod enc Tryz.prog W 0 (fun _=>true) true fuel 28 cs=some x):∃ a1 n1 c1 a2 n2 c2 a3 n3 c3,∃ x:CP,cs = [.slice a1 n1 c1,.int .i64 x.num,.int .i64 x.base,.int .i64 x.tm,.int .i64 x.next,.int .i64 x.scope,.bool x.ind,.slice a2 n2 c2,.slice a3 n3 c3]∧Crs W a1 n1 a2 n2 a3 n3 x∧(-9223372036854775808≤x.scope∧x.scope≤9223372036854775807):=by
 obtain ⟨xs,m,rfl,_,hl,hxl,hf⟩:=DataW.trod_struct Tryz.underlying28 h
 have hl2:cs.length=9:=hl.trans (by kernel_rfl)
 have hx2:xs.length=9:=hxl
 obtain ⟨c0,c1,c2,c3,c4,c5,c6,c7,c8,rfl⟩:∃ c0 c1 c2 c3 c4 c5 c6 c7 c8,cs = [c0,c1,c2,c3,c4,c5,c6,c7,c8]:=by
  match cs,hl2 with
  | [c0,c1,c2,c3,c4,c5,c6,c7,c8],_=>exact ⟨c0,c1,c2,c3,c4,c5,c6,c7,c8,rfl⟩
 obtain ⟨x0,x1,x2,x3,x4,x5,x6,x7,x8,rfl⟩:∃ c0 c1 c2 c3 c4 c5 c6 c7 c8,xs = [c0,c1,c2,c3,c4,c5,c6,c7,c8]:=by
  match xs,hx2 with
  | [c0,c1,c2,c3,c4,c5,c6,c7,c8],_=>exact ⟨c0,c1,c2,c3,c4,c5,c6,c7,c8,rfl⟩
 have e0:Tryz.prog.cellsOf 24=1:=by kernel_rfl
 have f0:DataW.trod enc Tryz.prog W 0 (fun _=>true) true m 24 ((([c0,c1,c2,c3,c4,c5,c6,c7,c8]:List Value).drop 0).take (Tryz.prog.cellsOf 24))=some x0:=hf 0 _ rfl
 rw [e0] at f0
 have e1:Tryz.prog.cellsOf 2=1:=by kernel_rfl
 have f1:DataW.trod enc Tryz.prog W 0 (fun _=>true) true m 2 ((([c0,c1,c2,c3,c4,c5,c6,c7,c8]:List Value).drop 1).take (Tryz.prog.cellsOf 2))=some x1:=hf 1 _ rfl
 rw [e1] at f1
 have e2:Tryz.prog.cellsOf 2=1:=by kernel_rfl
 have f2:DataW.trod enc Tryz.prog W 0 (fun _=>true) true m 2 ((([c0,c1,c2,c3,c4,c5,c6,c7,c8]:List Value).drop 2).take (Tryz.prog.cellsOf 2))=some x2:=hf 2 _ rfl
 rw [e2] at f2
 have e3:Tryz.prog.cellsOf 2=1:=by kernel_rfl
 have f3:DataW.trod enc Tryz.prog W 0 (fun _=>true) true m 2 ((([c0,c1,c2,c3,c4,c5,c6,c7,c8]:List Value).drop 3).take (Tryz.prog.cellsOf 2))=some x3:=hf 3 _ rfl
 rw [e3] at f3
 have e4:Tryz.prog.cellsOf 2=1:=by kernel_rfl
 have f4:DataW.trod enc Tryz.prog W 0 (fun _=>true) true m 2 ((([c0,c1,c2,c3,c4,c5,c6,c7,c8]:List Value).drop 4).take (Tryz.prog.cellsOf 2))=some x4:=hf 4 _ rfl
 rw [e4] at f4
 have e5:Tryz.prog.cellsOf 2=1:=by kernel_rfl
 have f5:DataW.trod enc Tryz.prog W 0 (fun _=>true) true m 2 ((([c0,c1,c2,c3,c4,c5,c6,c7,c8]:List Value).drop 5).take (Tryz.prog.cellsOf 2))=some x5:=hf 5 _ rfl
 rw [e5] at f5
 have e6:Tryz.prog.cellsOf 4=1:=by kernel_rfl
 have f6:DataW.trod enc Tryz.prog W 0 (fun _=>true) true m 4 ((([c0,c1,c2,c3,c4,c5,c6,c7,c8]:List Value).drop 6).take (Tryz.prog.cellsOf 4))=some x6:=hf 6 _ rfl
 rw [e6] at f6
 have e7:Tryz.prog.cellsOf 25=1:=by kernel_rfl
 have f7:DataW.trod enc Tryz.prog W 0 (fun _=>true) true m 25 ((([c0,c1,c2,c3,c4,c5,c6,c7,c8]:List Value).drop 7).take (Tryz.prog.cellsOf 25))=some x7:=hf 7 _ rfl
 rw [e7] at f7
 have e8:Tryz.prog.cellsOf 26=1:=by kernel_rfl
 have f8:DataW.trod enc Tryz.prog W 0 (fun _=>true) true m 26 ((([c0,c1,c2,c3,c4,c5,c6,c7,c8]:List Value).drop 8).take (Tryz.prog.cellsOf 26))=some x8:=hf 8 _ rfl
 rw [e8] at f8
 obtain ⟨a1,n1,d1,ys,h0,hp⟩:=open_name f0
 obtain ⟨v1,h1,_,_⟩:=DataW.trod_int Tryz.underlying2 f1
 obtain ⟨v2,h2,_,_⟩:=DataW.trod_int Tryz.underlying2 f2
 obtain ⟨v3,h3,_,_⟩:=DataW.trod_int Tryz.underlying2 f3
 obtain ⟨v4,h4,_,_⟩:=DataW.trod_int Tryz.underlying2 f4
 obtain ⟨v5,h5,_,w5⟩:=DataW.trod_int Tryz.underlying2 f5
 obtain ⟨v6,h6,_⟩:=DataW.trod_bool Tryz.underlying4 f6
 obtain ⟨a2,n2,d2,es,h7,hg⟩:=open_gones f7
 obtain ⟨a3,n3,d3,bs,h8,hs,hm⟩:=open_sig f8
 simp at h0 h1 h2 h3 h4 h5 h6 h7 h8
 subst h0 h1 h2 h3 h4 h5 h6 h7 h8
 exact ⟨a1,n1,d1,a2,n2,d2,a3,n3,d3,⟨ys,v1,v2,v3,v4,v5,v6,es,bs⟩,rfl,⟨hp,hg,hs,hm⟩,bounds_i64 w5⟩
open Go.ChangeShapes Go.WideShapes Go.ChangeAt Go.RowKit
set_option maxRecDepth 20000 in
theorem open_secret {H:Type}{enc:TypeId × Value→H}{W:World}{fuel:Nat}{cs:List Value}{x:DataW H × List MemPlace}(h:DataW.trod enc Tryz.prog W 0 (fun _=>true) true fuel 31 cs=some x):∃ s y k l:Int,cs = [.int .i64 s,.int .u64 y,.int .i64 k,.int .i64 l]∧U64 y:=by
 obtain ⟨xs,m,rfl,_,hl,hxl,hf⟩:=DataW.trod_struct Tryz.underlying31 h
 have hl2:cs.length=4:=hl.trans (by kernel_rfl)
 have hx2:xs.length=4:=hxl
 obtain ⟨c0,c1,c2,c3,rfl⟩:∃ c0 c1 c2 c3,cs = [c0,c1,c2,c3]:=by
  match cs,hl2 with
  | [c0,c1,c2,c3],_=>exact ⟨c0,c1,c2,c3,rfl⟩
 obtain ⟨x0,x1,x2,x3,rfl⟩:∃ c0 c1 c2 c3,xs = [c0,c1,c2,c3]:=by
  match xs,hx2 with
  | [c0,c1,c2,c3],_=>exact ⟨c0,c1,c2,c3,rfl⟩
 have e_i64:Tryz.prog.cellsOf 2=1:=by kernel_rfl
 have e_u64:Tryz.prog.cellsOf 29=1:=by kernel_rfl
 have f0:DataW.trod enc Tryz.prog W 0 (fun _=>true) true m 2 ((([c0,c1,c2,c3]:List Value).drop 0).take (Tryz.prog.cellsOf 2))=some x0:=hf 0 _ rfl
 rw [e_i64] at f0
 obtain ⟨n0,g0,_,_⟩:=DataW.trod_int Tryz.underlying2 f0
 have f1:DataW.trod enc Tryz.prog W 0 (fun _=>true) true m 29 ((([c0,c1,c2,c3]:List Value).drop 1).take (Tryz.prog.cellsOf 29))=some x1:=hf 1 _ rfl
 rw [e_u64] at f1
 obtain ⟨n1,g1,_,u1⟩:=DataW.trod_int Tryz.underlying29 f1
 have f2:DataW.trod enc Tryz.prog W 0 (fun _=>true) true m 2 ((([c0,c1,c2,c3]:List Value).drop 2).take (Tryz.prog.cellsOf 2))=some x2:=hf 2 _ rfl
 rw [e_i64] at f2
 obtain ⟨n2,g2,_,_⟩:=DataW.trod_int Tryz.underlying2 f2
 have f3:DataW.trod enc Tryz.prog W 0 (fun _=>true) true m 2 ((([c0,c1,c2,c3]:List Value).drop 3).take (Tryz.prog.cellsOf 2))=some x3:=hf 3 _ rfl
 rw [e_i64] at f3
 obtain ⟨n3,g3,_,_⟩:=DataW.trod_int Tryz.underlying2 f3
 simp at g0 g1 g2 g3
 subst g0 g1 g2 g3
 exact ⟨n0,n1,n2,n3,rfl,bounds_u64 u1⟩
end Go.Proofs.YtnmplldhdfingaaGreatDoor
