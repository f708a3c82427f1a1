import Derived.DeepKeys4
import Derived.Maps.OwnSet
import Derived.Maps.Views
import Derived.Test.YtkdandggklpppaaGreatDoorFE29
import Derived.Test.YtkdandggklpppaaGreatDoorFE20
set_option maxRecDepth 10000
set_option maxHeartbeats 8000000
set_option linter.unusedVariables false
namespace Go.Proofs.YtkdandggklpppaaGreatDoor
open Go.RowKit Go.Maps
def ko1 (an:Option Addr)(nn cn:Nat)(y:GP)(G B:Nat):RSpec where
 m:=7
 n:=9
 slots:=[3,4,5,6,7,8,100006,100007,100008]
 kills:=[[],[],[],[],[],[],[],[],[6]]
 pres:=[[],[],[],[],[],[],[],[],[]]
 fact:=fun k v w=>match k with
  | 0=>v=.pointer (some ⟨G,0,none⟩)
  | 1=>v=.agg #[.slice an nn cn]
  | 2=>v=.string (ftS y.parts)
  | 3=>v=.pointer (some ⟨G,1,none⟩)
  | 4=>v=.int .i64 y.ser
  | 5=>v=.agg #[.string (ftS y.parts),.int .i64 y.ser]
  | 6=>w.heap[(G+1)]? = some (.cells #[.string (ftS y.parts),.int .i64 y.ser] 141 (0,0))
  | 7=>w.heap[G]? = some (.cells #[.slice an nn cn,.int .i64 y.ser,.int .i64 y.tm,.int .i64 y.rs] 65 (0,0))
  | _=>w.heap[(G+1)]? = some (.cells #[.string { data:=#[] },.int .i64 0] 141 (0,0))
theorem ko1_stb (an:Option Addr)(nn cn:Nat)(y:GP)(G B:Nat)(k:Nat)(hk:k<9):StB ((ko1 an nn cn y G (B)).fact k):=by
 match k,hk with
 | 0,_=>exact fun _ _ _ h _=>h
 | 1,_=>exact fun _ _ _ h _=>h
 | 2,_=>exact fun _ _ _ h _=>h
 | 3,_=>exact fun _ _ _ h _=>h
 | 4,_=>exact fun _ _ _ h _=>h
 | 5,_=>exact fun _ _ _ h _=>h
 | 6,_=>exact fun _ _ _ q_0 hb=>below_kept q_0 hb
 | 7,_=>exact fun _ _ _ q_0 hb=>below_kept q_0 hb
 | 8,_=>exact fun _ _ _ q_0 hb=>below_kept q_0 hb
 | k+9,hk=>omega
theorem ko1_st6 (an:Option Addr)(nn cn:Nat)(y:GP)(G B:Nat){W W2:World}{cs:Array Value}{fr:Nat × Nat}(hg:W.heap[(G+1)]? = some (.cells cs 141 fr))(ht:Touch ((G+1)) ((G+1)+1) W W2)(k:Nat)(hk:k<9)(hne:k≠6)(hkill:6∉(ko1 an nn cn y G (B)).kill k)(v:Value)(hfact:(ko1 an nn cn y G (B)).fact k v W):(ko1 an nn cn y G (B)).fact k v W2:=by
 match k,hk,hne,hkill,hfact with
 | 0,_,_,_,hq=>exact hq
 | 1,_,_,_,hq=>exact hq
 | 2,_,_,_,hq=>exact hq
 | 3,_,_,_,hq=>exact hq
 | 4,_,_,_,hq=>exact hq
 | 5,_,_,_,hq=>exact hq
 | 6,_,hne,_,_=>exact absurd rfl hne
 | 7,_,_,_,q_0=>exact box_box q_0 hg (by decide) ht
 | 8,_,_,hkill,_=>exact absurd (List.Mem.head _) hkill
 | k+9,hk,_,_,_=>omega
theorem goneKey_any (an : Option Addr) (nn cn : Nat) (y : GP) (w : World) (htab : Lib.TabIs Tryz.prog w "internal/strconv.uint64pow10" .u64 Lib.pow10Tab) (h : Pts w an nn y.parts) (hp : nameP y.parts) :
  Calls Tryz.prog 101 #[gov an nn cn y] w fun e w'=>e=.returned (.agg #[.string (ftS y.parts),.int .i64 y.ser])∧Below w.heap.size w w':=by
 unfold gov
 obtain ⟨W0,hW0⟩:∃ W0,W0=(w.alloc (.cells #[.slice an nn cn,.int .i64 y.ser,.int .i64 y.tm,.int .i64 y.rs] 65)).alloc (.cells #[.string { data:=#[] },.int .i64 0] 141):=⟨_,rfl⟩
 have hB0:Below w.heap.size w W0:=by rw [hW0]; exact two_below _ _ _
 have b0:=two_blocks w (.cells #[.slice an nn cn,.int .i64 y.ser,.int .i64 y.tm,.int .i64 y.rs] 65) (.cells #[.string { data:=#[] },.int .i64 0] 141)
 rw [← hW0] at b0
 have HFT:Hid (∀ W,Below w.heap.size W0 W→Calls Tryz.prog 114 #[.agg #[.slice an nn cn]] W fun e w'=>e=.returned (.string (ftS y.parts))∧Below W.heap.size W w'):=fun W hW=>foldedText_any an nn cn y.parts W (Lib.tabBelow_of_tabIs htab W (hB0.trans hW)) (h.kept (hB0.trans hW)) hp
 have HW:Hid (_=_):=hW0
 have HBB:w.heap.size≤W0.heap.size:=hB0.size
 clear hW0 htab h hp
 go_enter Tryz.func101,Tryz.ntmps101
 go_upto_region 1 with fail
 rw [← HW.out]
 clear HW
 refine wp_region_ri (ko1 an nn cn y w.heap.size (w.heap.size)) [3,4,5,6,7,8] (w.heap.size) (fun a0=>a0.tmps.size=9∧aT a0 1=.pointer (some ⟨w.heap.size,0,none⟩)∧aT a0 2=.pointer (some ⟨(w.heap.size+1),0,none⟩)) (by kernel_rfl) rfl (by kernel_rfl) rfl ⟨rfl,rfl,rfl⟩ (ko1_stb an nn cn y w.heap.size (w.heap.size)) ?_ ?_ ?_
 ·intro k hk hk2
  match k,hk,hk2 with
  | 7,_,_=>exact b0.1
  | 8,_,_=>exact b0.2
  | 0,hk,_=>exact absurd hk (by show ¬ (7≤0); omega)
  | 1,hk,_=>exact absurd hk (by show ¬ (7≤1); omega)
  | 2,hk,_=>exact absurd hk (by show ¬ (7≤2); omega)
  | 3,hk,_=>exact absurd hk (by show ¬ (7≤3); omega)
  | 4,hk,_=>exact absurd hk (by show ¬ (7≤4); omega)
  | 5,hk,_=>exact absurd hk (by show ¬ (7≤5); omega)
  | 6,hk,_=>exact absurd hk (by show ¬ (7≤6); omega)
  | k+9,_,hk2=>exact absurd hk2 (by show ¬ (k+9<9); omega)
 ·rintro a0 ⟨hz,g1,g2⟩
  refine StepsRI.cons ?_ (StepsRI.cons ?_ (StepsRI.cons ?_ (StepsRI.cons ?_ (StepsRI.cons ?_ (StepsRI.cons ?_ (StepsRI.cons ?_ (StepsRI.nil)))))))
  ·intro lQ b W hI hUN hED KQ hKQ
   exact opw_field 65 1 0 rfl _ ((hI.fr.same 1 (by decide)).trans g1) _ (by kernel_rfl) (hKQ.out _ _ (hI.put 0 3 rfl rfl (by rw [hz]; decide) rfl hUN rfl HBB (ko1_stb an nn cn y w.heap.size (w.heap.size)) (Below.refl _ _) rfl))
  ·intro lQ b W hI hUN hED KQ hKQ
   have f:aT b 3=.pointer (some ⟨w.heap.size,0,none⟩):=hI.got 0 (of_decide_eq_true rfl) (edge hED 0 (by kernel_rfl)) rfl
   have hg:=hI.vot 7 (of_decide_eq_true rfl) (of_decide_eq_true rfl) rfl
   have hc:W.cell? ⟨w.heap.size,0,none⟩=some (.slice an nn cn):=(cell_of_row _ _ 0 _ _ (0,0) hg).trans rfl
   exact opw_load1 36 3 rfl _ f (.agg #[.slice an nn cn]) (by simp [Instr.loadAt,go_sem,hc]) (hKQ.out _ _ (hI.put 1 4 rfl rfl (by rw [hz]; decide) rfl hUN rfl HBB (ko1_stb an nn cn y w.heap.size (w.heap.size)) (Below.refl _ _) rfl))
  ·intro lQ b W hI hUN hED KQ hKQ
   have f0:=hI.got 1 (of_decide_eq_true rfl) (edge hED 1 (by kernel_rfl)) rfl
   replace f0:aT b 4=.agg #[.slice an nn cn]:=f0
   refine opw_call 114 #[.tmp 4] _ _ _ rfl Tryz.func114 (by kernel_rfl) rfl #[.agg #[.slice an nn cn]] (by simp [ev,f0]) ?_
   refine (HFT.out W hI.bel).mono ?_
   rintro e W2 ⟨rfl,hb⟩
   exact ⟨_,rfl,hKQ.out _ _ (hI.put 2 5 rfl rfl (by rw [hz]; decide) rfl hUN rfl HBB (ko1_stb an nn cn y w.heap.size (w.heap.size)) hb rfl)⟩
  ·intro lQ b W hI hUN hED KQ hKQ
   exact opw_field 65 1 1 rfl _ ((hI.fr.same 1 (by decide)).trans g1) _ (by kernel_rfl) (hKQ.out _ _ (hI.put 3 6 rfl rfl (by rw [hz]; decide) rfl hUN rfl HBB (ko1_stb an nn cn y w.heap.size (w.heap.size)) (Below.refl _ _) rfl))
  ·intro lQ b W hI hUN hED KQ hKQ
   have f:=hI.got 3 (of_decide_eq_true rfl) (edge hED 3 (by kernel_rfl)) rfl
   have hg:=(hI.vot 7 (of_decide_eq_true rfl) (of_decide_eq_true rfl) rfl)
   have hc:W.cell? ⟨w.heap.size,1,none⟩=some (.int .i64 y.ser):=(cell_of_row _ _ 1 _ _ (0,0) hg).trans rfl
   exact opw_load1 2 6 rfl _ f _ (by simp [Instr.loadAt,go_sem,hc]) (hKQ.out _ _ (hI.put 4 7 rfl rfl (by rw [hz]; decide) rfl hUN rfl HBB (ko1_stb an nn cn y w.heap.size (w.heap.size)) (Below.refl _ _) rfl))
  ·intro lQ b W hI hUN hED KQ hKQ
   have f0:=hI.got 2 (of_decide_eq_true rfl) (edge hED 2 (by kernel_rfl)) rfl
   replace f0:aT b 5=.string (ftS y.parts):=f0
   have f1:=hI.got 4 (of_decide_eq_true rfl) (edge hED 4 (by kernel_rfl)) rfl
   replace f1:aT b 7=.int .i64 y.ser:=f1
   refine opw_build 141 _ rfl #[(0,.string (ftS y.parts)),(1,.int .i64 y.ser)] (by simp [ev,f0,f1]) (.agg #[.string (ftS y.parts),.int .i64 y.ser]) (by kernel_rfl) ?_
   exact hKQ.out _ _ (hI.put 5 8 rfl rfl (by rw [hz]; decide) rfl hUN rfl HBB (ko1_stb an nn cn y w.heap.size (w.heap.size)) (Below.refl _ _) rfl)
  ·intro lQ b W hI hUN hED KQ hKQ
   have hgb:=(hI.vot1 8 6 (of_decide_eq_true rfl) (of_decide_eq_true rfl) hUN rfl)
   have fb:=((hI.fr.same 2 (by decide)).trans g2)
   have f:=hI.got 5 (of_decide_eq_true rfl) (edge hED 5 (by kernel_rfl)) rfl
   refine wp_store_row 141 _ _ rfl ((w.heap.size+1)) #[.string (ftS y.parts),.int .i64 y.ser] fb f 141 _ hgb (by kernel_rfl) rfl (by simp [Value.oneCell']) ?_
   have ht:=setRow_touch W ((w.heap.size+1)) #[.string (ftS y.parts),.int .i64 y.ser]
   exact hKQ.out _ _ (hI.store 6 (fun j hj=>by cases hj) (hI.bel.trans (ht.below (by first | exact HGE2 | omega) (Nat.le_trans HBB hI.bel.size))) (ko1_st6 an nn cn y w.heap.size (w.heap.size) hgb ht) (setRow_heap W ((w.heap.size+1)) _ _ _ _ hgb))
 ·intro b W hf hb F
  have hk:=F 6 (of_decide_eq_true rfl) rfl
  rw [hf.eq]
  simp only [puts,Act.put,List.setIfInBounds_toArray,List.set_cons_zero,List.set_cons_succ]
  clear hf F
  have hK:W.heap[w.heap.size+1]? = some (.cells #[.string (ftS y.parts),.int .i64 y.ser] 141 (0,0)):=hk
  have HK:Hid (_=_):=hK
  clear hk hK
  go_wp2
  exact bodyPost_ret (results_cell_row (by rfl) _ _ (w.heap.size+1) _ _ (0,0) _ rfl HK.out Tryz.underlying141 rfl (by kernel_rfl)) rfl ⟨rfl,hB0.trans hb⟩
open Go.RowKit Go.Maps
theorem laidOutP:laidOutB Tryz.prog=true:=by kernel_rfl
theorem kRow:(141:TypeId)<Tryz.prog.types.size:=of_decide_eq_true (by kernel_rfl)
theorem kWide:(match Tryz.prog.underlying 141 with | some (.array _ _) | some (.struct _)=>true | _=>false)=true:=by rw [Tryz.underlying141]
set_option maxRecDepth 20000 in
theorem kLaw:Keyed Tryz.prog 141:=Keyed.of_law (deep_law_laid laidOutP (m:=2) (by omega) kRow (by kernel_rfl) kWide)
theorem kCells:Tryz.prog.cellsOf 141=2:=by kernel_rfl
theorem kCell2:Tryz.prog.cellsOf 2=1:=by kernel_rfl
theorem kCell9:Tryz.prog.cellsOf 9=1:=by kernel_rfl
theorem kType:Tryz.prog.keyType 141=true:=by kernel_rfl
theorem pos_succ {a n:Nat}(h:a<n):∃ m,n=m+1:=⟨n - 1,by omega⟩
set_option maxRecDepth 20000 in
theorem kSize:∃ m,Tryz.prog.types.size=m+1:=pos_succ (a:=141) kRow
def kl (s:ByteArray)(n:Int):Lit:=.string (keyBytes [.string s.data.toList,.int .i64 n])
theorem key_is {s:ByteArray}{n:Int}(hs:s.size≤maxLen)(hn:(Lit.int .i64 n).wf=true):Go.keyOf Tryz.prog 141 (.agg #[.string s,.int .i64 n])=some (kl s n):=by
 obtain ⟨m,hm⟩:=kSize
 unfold Go.keyOf
 rw [Tryz.underlying141]
 have hf:(Value.agg #[.string s,.int .i64 n]).formed Tryz.prog 141=true:=by simp [Value.formed,Tryz.underlying141,kCells]
 simp only [kType,hf,Bool.and_self,if_true]
 have h1:Tryz.prog.keyLits (m+1) 9 [.string s]=some [.string s.data.toList]:=by simp [Program.keyLits,Tryz.underlying9,hs]
 have h2:Tryz.prog.keyLits (m+1) 2 [.int .i64 n]=some [.int .i64 n]:=by simp [Program.keyLits,Tryz.underlying2,hn]
 have h3:Tryz.prog.keyLits (m+1+1) 141 [.string s,.int .i64 n]=some [.string s.data.toList,.int .i64 n]:=by
  unfold Program.keyLits
  simp only [Tryz.underlying141]
  simp [kCells,kCell2,kCell9,h1,h2]
 have hc:(Value.agg #[.string s,.int .i64 n]).cells.toList = [.string s,.int .i64 n]:=by simp [Value.cells]
 rw [hm,hc,h3]
 rfl
theorem key_inj {s t:ByteArray}{m n:Int}(hs:s.size≤maxLen)(ht:t.size≤maxLen)(hm:(Lit.int .i64 m).wf=true)(hn:(Lit.int .i64 n).wf=true)(h:kl s m=kl t n):s=t∧m=n:=by
 have h1:=key_is hs hm
 have h2:=key_is ht hn
 rw [h] at h1
 have:=kLaw.inj h1 h2
 simpa using this
theorem isKey {s:ByteArray}{n:Int}(hs:s.size≤maxLen)(hn:(Lit.int .i64 n).wf=true):WideAt.IsKeyLit (kl s n):=kLaw.key (key_is hs hn)
open Go.ChangeShapes Go.WideShapes Go.ChangeAt Go.RowKit
def OpensG (W:World)(y:Option Addr × Nat × Nat × GP)(cs:List Value):Prop:=cs = [.slice y.1 y.2.1 y.2.2.1,.int .i64 y.2.2.2.ser,.int .i64 y.2.2.2.tm,.int .i64 y.2.2.2.rs]∧Pts W y.1 y.2.1 y.2.2.2.parts
set_option maxRecDepth 20000 in
theorem open_gone {H:Type}{enc:TypeId × Value→H}{W:World}{fuel:Nat}{cs:List Value}{x:DataW H × List MemPlace}(h:DataW.trod enc Tryz.prog W 0 (fun _=>true) true fuel 60 cs=some x):∃ y,OpensG W y cs:=by
 obtain ⟨xs,m,rfl,_,hl,hxl,hf⟩:=DataW.trod_struct Tryz.underlying60 h
 have hl2:cs.length=4:=hl.trans (by kernel_rfl)
 have hx2:xs.length=4:=hxl
 obtain ⟨c0,c1,c2,c3,rfl⟩:∃ c0 c1 c2 c3,cs = [c0,c1,c2,c3]:=by
  match cs,hl2 with
  | [c0,c1,c2,c3],_=>exact ⟨c0,c1,c2,c3,rfl⟩
 obtain ⟨x0,x1,x2,x3,rfl⟩:∃ c0 c1 c2 c3,xs = [c0,c1,c2,c3]:=by
  match xs,hx2 with
  | [c0,c1,c2,c3],_=>exact ⟨c0,c1,c2,c3,rfl⟩
 have e0:Tryz.prog.cellsOf 24=1:=by kernel_rfl
 have f0:DataW.trod enc Tryz.prog W 0 (fun _=>true) true m 24 ((([c0,c1,c2,c3]:List Value).drop 0).take (Tryz.prog.cellsOf 24))=some x0:=hf 0 _ rfl
 rw [e0] at f0
 have e1:Tryz.prog.cellsOf 2=1:=by kernel_rfl
 have f1:DataW.trod enc Tryz.prog W 0 (fun _=>true) true m 2 ((([c0,c1,c2,c3]:List Value).drop 1).take (Tryz.prog.cellsOf 2))=some x1:=hf 1 _ rfl
 rw [e1] at f1
 have e2:Tryz.prog.cellsOf 2=1:=by kernel_rfl
 have f2:DataW.trod enc Tryz.prog W 0 (fun _=>true) true m 2 ((([c0,c1,c2,c3]:List Value).drop 2).take (Tryz.prog.cellsOf 2))=some x2:=hf 2 _ rfl
 rw [e2] at f2
 have e3:Tryz.prog.cellsOf 2=1:=by kernel_rfl
 have f3:DataW.trod enc Tryz.prog W 0 (fun _=>true) true m 2 ((([c0,c1,c2,c3]:List Value).drop 3).take (Tryz.prog.cellsOf 2))=some x3:=hf 3 _ rfl
 rw [e3] at f3
 obtain ⟨a,n,c,ys,h0,hp⟩:=open_name f0
 obtain ⟨n1,h1,_,_⟩:=DataW.trod_int Tryz.underlying2 f1
 obtain ⟨n2,h2,_,_⟩:=DataW.trod_int Tryz.underlying2 f2
 obtain ⟨n3,h3,_,_⟩:=DataW.trod_int Tryz.underlying2 f3
 simp at h0 h1 h2 h3
 subst h0 h1 h2 h3
 exact ⟨(a,n,c,⟨ys,n1,n2,n3⟩),rfl,hp⟩
set_option maxRecDepth 20000 in
theorem open_gones {H:Type}{enc:TypeId × Value→H}{W:World}{fuel:Nat}{cs:List Value}{x:DataW H × List MemPlace}(h:DataW.trod enc Tryz.prog W 0 (fun _=>true) true fuel 25 cs=some x):∃ a n c xs,cs = [.slice a n c]∧Gns W a n xs:=by
 rcases DataW.trod_slice Tryz.underlying25 h with ⟨rfl,_⟩ | ⟨a,len,cap,elems,rest,n,rfl,rfl,_,_,hl,hm,hlen,hel,_,_⟩
 ·exact ⟨none,0,0,[],rfl,⟨rfl,by decide,fun k hk=>absurd hk (by omega)⟩⟩
 ·have ec:Tryz.prog.cellsOf 60=4:=by kernel_rfl
  rw [ec] at hel
  have each:∀ i,i<len→∃ y:Option Addr × Nat × Nat × GP,∃ cs',W.cells? 0 (a.add (i * 4)) 4=some cs'∧OpensG W y cs':=by
   intro i hi
   have he:=hel i hi
   rw [List.getElem?_eq_getElem (by omega)] at he
   cases hc:W.cells? 0 (a.add (i * 4)) 4 with
   | none=>rw [hc] at he; cases he
   | some cs' =>
    rw [hc] at he
    obtain ⟨y,hy⟩:=open_gone he
    exact ⟨y,cs',rfl,hy⟩
  obtain ⟨y,hy⟩:=Go.Deep.choose_lt each
  have hm':len≤9223372036854775807:=by unfold maxLen at hm; omega
  refine ⟨some a,len,cap,(List.range len).map (fun i=>(y i).2.2.2),rfl,⟨by simp,hm',fun k hk=>?_⟩⟩
  obtain ⟨cs',hcs,rfl,hnk⟩:=hy k hk
  obtain ⟨_,_,hcell⟩:=World.cells?_some hcs
  obtain ⟨b,off,spot⟩:=a
  have hs:spot=none:=by
   obtain ⟨cs0,hcs0,_⟩:=hy 0 (by omega)
   obtain ⟨_,hl0,hcell0⟩:=World.cells?_some hcs0
   have h00:=hcell0 0 (by omega)
   rw [List.getElem?_eq_getElem (by omega)] at h00
   simpa [Addr.add] using World.cell?_spot h00
  subst hs
  have ey:((List.range len).map (fun i=>(y i).2.2.2)).getD k default=(y k).2.2.2:=by simp [hk]
  rw [ey]
  have cc:∀ j,j<4→W.cell? ⟨b,off+k * 4+j,none⟩ = [Value.slice (y k).1 (y k).2.1 (y k).2.2.1,.int .i64 (y k).2.2.2.ser,.int .i64 (y k).2.2.2.tm,.int .i64 (y k).2.2.2.rs][j]?:=by
   intro j hj
   have:=hcell j hj
   rw [Addr.add_lit,Addr.add_lit] at this
   exact this
  exact ⟨b,off,_,_,_,rfl,World.block_lt_of_cell? W _ (cc 0 (by omega)),⟨cc 0 (by omega),cc 1 (by omega),cc 2 (by omega),cc 3 (by omega)⟩,hnk⟩
set_option maxRecDepth 20000 in
theorem open_sig {H:Type}{enc:TypeId × Value→H}{W:World}{fuel:Nat}{cs:List Value}{x:DataW H × List MemPlace}(h:DataW.trod enc Tryz.prog W 0 (fun _=>true) true fuel 26 cs=some x):∃ a n c bs,cs = [.slice a n c]∧Row W a n bs∧n≤9223372036854775807:=by
 rcases open_ints Tryz.underlying26 Tryz.underlying5 (by kernel_rfl) h with ⟨rfl,_⟩ | ⟨a,len,cap,zs,rfl,_,hl,hm,hz,_,hc,hw⟩
 ·exact ⟨none,0,0,[],rfl,⟨rfl,fun k hk=>absurd hk (Nat.not_lt_zero _),by simp⟩,by decide⟩
 ·have hr:IsRow .u8 W (some a) len cap zs:=.inr ⟨a,rfl,hl,hm,by simpa using hz,hc,hw⟩
  exact ⟨some a,len,cap,zs.take len,rfl,hr.row.1,by unfold maxLen at hm; omega⟩
end Go.Proofs.YtkdandggklpppaaGreatDoor
