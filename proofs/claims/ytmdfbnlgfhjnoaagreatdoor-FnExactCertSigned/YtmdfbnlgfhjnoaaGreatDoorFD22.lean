import Derived.Laws.EntriesVeiled
import Derived.Great.BuildSlice
import Derived.Great.Walk
import Derived.Deep.Cut
import Derived.Test.YtmdfbnlgfhjnoaaGreatDoorFD19
set_option maxRecDepth 10000
set_option maxHeartbeats 8000000
set_option linter.unusedVariables false
namespace Go.Proofs.YtmdfbnlgfhjnoaaGreatDoor
open Go.RowKit
theorem results_gr {fn:Func}{t u:Tmp}(h:fn.results=#[.cell t 209,.tmp u])(tmps:Array Value)(g:Nat)(b:Bool)(ht:tmps.getD t undef=.pointer (some ⟨g,0,none⟩))(hu:tmps.getD u undef=.bool b)(w:World)(c0 c1 c2 c3:Value)
  (hb:w.heap[g]? = some (.cells #[c0,c1,c2,c3] 209 (0,0))):(results fn tmps).run Tryz.prog w=.ok (.tuple #[.agg #[c0,c1,c2,c3],.bool b]) w:=by
 have d0:w.cell? ⟨g,0,none⟩=some c0:=qk hb rfl
 have d1:w.cell? ⟨g,1,none⟩=some c1:=qk hb rfl
 have d2:w.cell? ⟨g,2,none⟩=some c2:=qk hb rfl
 have d3:w.cell? ⟨g,3,none⟩=some c3:=qk hb rfl
 clear hb
 have ht':tmps[t]?.getD undef=.pointer (some ⟨g,0,none⟩):=by rw [← ht]; simp
 have hu':tmps[u]?.getD undef=.bool b:=by rw [← hu]; simp
 simp [results,h,go_sem,ht',hu',d0,d1,d2,d3]
theorem below_setRow {B:Nat}{w w':World}(h:Below B w w'){g:Nat}(hg:B≤g)(cs:Array Value):Below B w (w'.setRow g cs) :=
 h.trans ⟨rfl,rfl,rfl,by simp,fun k hk=>setRow_other _ _ _ _ (by omega)⟩
def tabC:Array Value:=#[.nilFunc,.nilFunc,.nilFunc,.nilFunc,.func (Fn.func 189) #[] #[],.func (Fn.func 190) #[] #[],.func (Fn.func 191) #[] #[],.func (Fn.func 192) #[] #[],.func (Fn.func 189) #[] #[],.func (Fn.func 193) #[] #[],.func (Fn.func 194) #[] #[],.func (Fn.func 195) #[] #[],.func (Fn.func 196) #[] #[],.func (Fn.func 197) #[] #[],.func (Fn.func 198) #[] #[],.func (Fn.func 199) #[] #[],.func (Fn.func 200) #[] #[],.func (Fn.func 201) #[] #[],.func (Fn.func 202) #[] #[],.func (Fn.func 203) #[] #[]]
def zero20:Array Value:=#[.nilFunc,.nilFunc,.nilFunc,.nilFunc,.nilFunc,.nilFunc,.nilFunc,.nilFunc,.nilFunc,.nilFunc,.nilFunc,.nilFunc,.nilFunc,.nilFunc,.nilFunc,.nilFunc,.nilFunc,.nilFunc,.nilFunc,.nilFunc]
structure TabF (w W:World):Prop where
 cell:∀ j,W.cell? ⟨w.heap.size+1,j,none⟩=tabC[j]?
 res:W.heap[w.heap.size]? = some (.cells #[.nilFunc,.nilFunc,.nilFunc,.nilFunc] 209 (0,0))
 size:W.heap.size=w.heap.size+2
 below:Below w.heap.size w W
theorem tab_heap (w:World):((w.alloc (.cells #[.nilFunc,.nilFunc,.nilFunc,.nilFunc] 209)).alloc (.cells zero20 224)).heap[w.heap.size+1]? = some (.cells zero20 224 (0,0)):=by
 have:=heap_alloc_new (w.alloc (.cells #[.nilFunc,.nilFunc,.nilFunc,.nilFunc] 209)) (.cells zero20 224 (0,0))
 simpa using this
theorem tabF_is (w:World):TabF w (((w.alloc (.cells #[.nilFunc,.nilFunc,.nilFunc,.nilFunc] 209)).alloc (.cells zero20 224)).setRow (w.heap.size+1) tabC):=by
 have h0:((w.alloc (.cells #[.nilFunc,.nilFunc,.nilFunc,.nilFunc] 209)).alloc (.cells zero20 224)).heap[w.heap.size]? = some (.cells #[.nilFunc,.nilFunc,.nilFunc,.nilFunc] 209 (0,0)):=by
  have hb:=((Below.refl (w.alloc (.cells #[.nilFunc,.nilFunc,.nilFunc,.nilFunc] 209)).heap.size (w.alloc (.cells #[.nilFunc,.nilFunc,.nilFunc,.nilFunc] 209))).alloc (Nat.le_refl _) (.cells zero20 224 (0,0))).block w.heap.size (by simp)
  exact hb.trans (heap_alloc_new w _)
 have hb:Below w.heap.size w ((w.alloc (.cells #[.nilFunc,.nilFunc,.nilFunc,.nilFunc] 209)).alloc (.cells zero20 224)):=((Below.refl _ _).alloc (Nat.le_refl _) _).alloc (by simp) _
 exact ⟨fun j=>cell_setRow_same _ _ j zero20 tabC 224 (0,0) (tab_heap w),(setRow_other _ _ _ _ (by omega)).trans h0,by simp,below_setRow hb (by omega) tabC⟩
theorem info20:(Tryz.prog.info? 224).map (·.size)=some tabC.size:=by kernel_rfl
theorem one20:(tabC.all fun x=>x.oneCell')=true:=by kernel_rfl
theorem alloc20 (w:World)(a:Act)(o:Oper)(ho:o.op=.alloc 224):(execOp a.eval o).run Tryz.prog w=.ok (.value (.pointer (some ⟨w.heap.size,0,none⟩))) (w.alloc (.cells zero20 224)):=by
 simp [execOp,ho,go_sem,zero20]
theorem alloc20b (w:World)(a:Act)(o:Oper)(ho:o.op=.alloc 224):(execOp a.eval o).run Tryz.prog (w.alloc (.cells #[.nilFunc,.nilFunc,.nilFunc,.nilFunc] 209))=.ok (.value (.pointer (some ⟨w.heap.size+1,0,none⟩))) ((w.alloc (.cells #[.nilFunc,.nilFunc,.nilFunc,.nilFunc] 209)).alloc (.cells zero20 224)):=by
 have h:=alloc20 (w.alloc (.cells #[.nilFunc,.nilFunc,.nilFunc,.nilFunc] 209)) a o ho
 rw [show (w.alloc (.cells #[.nilFunc,.nilFunc,.nilFunc,.nilFunc] 209)).heap.size=w.heap.size+1 by simp] at h
 exact h
theorem genRulesOf_1 (w:World):Calls Tryz.prog 173 #[.int .i64 1] w fun e w'=>e=.returned (.tuple #[.agg #[.func (Fn.func 189) #[] #[],.func (Fn.func 190) #[] #[],.func (Fn.func 191) #[] #[],.func (Fn.func 192) #[] #[]],.bool true])∧Below w.heap.size w w':=by
 go_enter Tryz.func173,Tryz.ntmps173
 go_upto_region 1 with fail
 rename_i K0 hK0
 apply wp_region_lit
 refine wpList_buildTo rfl 209 _ rfl (some 5) rfl #[.func (Fn.func 189) #[] #[],.func (Fn.func 190) #[] #[],.func (Fn.func 191) #[] #[],.func (Fn.func 192) #[] #[]] (by as_aux_lemma=>kernel_rfl) ?_
 refine wpList_buildTo rfl 209 _ rfl (some 6) rfl #[.func (Fn.func 189) #[] #[],.func (Fn.func 193) #[] #[],.func (Fn.func 194) #[] #[],.func (Fn.func 195) #[] #[]] (by as_aux_lemma=>kernel_rfl) ?_
 refine wpList_buildTo rfl 209 _ rfl (some 7) rfl #[.func (Fn.func 196) #[] #[],.func (Fn.func 197) #[] #[],.func (Fn.func 198) #[] #[],.func (Fn.func 199) #[] #[]] (by as_aux_lemma=>kernel_rfl) ?_
 refine wpList_buildTo rfl 209 _ rfl (some 8) rfl #[.func (Fn.func 200) #[] #[],.func (Fn.func 201) #[] #[],.func (Fn.func 202) #[] #[],.func (Fn.func 203) #[] #[]] (by as_aux_lemma=>kernel_rfl) ?_
 refine wpList_buildTo rfl 224 _ rfl (some 9) rfl tabC (by as_aux_lemma=>kernel_rfl) ?_
 refine Great.wpList_allocTo rfl (some 4) rfl _ _ (alloc20b w _ _ rfl) ?_
 refine wpList_store_rowTo rfl 224 _ _ rfl rfl (w.heap.size+1) tabC rfl rfl 224 zero20 (tab_heap w) info20 rfl one20 ?_
 apply wpList_nil
 refine hK0 _ _ ?_
 have HF:Hid (TabF w _):=tabF_is w
 obtain ⟨W,hW⟩:∃ W,W=((w.alloc (.cells #[.nilFunc,.nilFunc,.nilFunc,.nilFunc] 209)).alloc (.cells zero20 224)).setRow (w.heap.size+1) tabC:=⟨_,rfl⟩
 rw [← hW] at HF ⊢
 clear hW hK0 K0
 obtain ⟨TT,hTT⟩:∃ TT,TT=tabC:=⟨_,rfl⟩
 rw [← hTT]
 clear hTT
 have sz:=HF.out.size
 have c0:W.cell? ⟨w.heap.size+1,4,none⟩=some (.func (Fn.func 189) #[] #[]):=HF.out.cell 4
 have c1:W.cell? ⟨w.heap.size+1,5,none⟩=some (.func (Fn.func 190) #[] #[]):=HF.out.cell 5
 have c2:W.cell? ⟨w.heap.size+1,6,none⟩=some (.func (Fn.func 191) #[] #[]):=HF.out.cell 6
 have c3:W.cell? ⟨w.heap.size+1,7,none⟩=some (.func (Fn.func 192) #[] #[]):=HF.out.cell 7
 have fz0:W.frozen? ⟨w.heap.size,0,none⟩=false:=frozen_of_row W w.heap.size 0 _ 209 HF.out.res
 have fz1:W.frozen? ⟨w.heap.size,1,none⟩=false:=frozen_of_row W w.heap.size 1 _ 209 HF.out.res
 have fz2:W.frozen? ⟨w.heap.size,2,none⟩=false:=frozen_of_row W w.heap.size 2 _ 209 HF.out.res
 have fz3:W.frozen? ⟨w.heap.size,3,none⟩=false:=frozen_of_row W w.heap.size 3 _ 209 HF.out.res
 have r0:W.cell? ⟨w.heap.size,0,none⟩=some .nilFunc:=qk HF.out.res rfl
 have r1:W.cell? ⟨w.heap.size,1,none⟩=some .nilFunc:=qk HF.out.res rfl
 have r2:W.cell? ⟨w.heap.size,2,none⟩=some .nilFunc:=qk HF.out.res rfl
 have r3:W.cell? ⟨w.heap.size,3,none⟩=some .nilFunc:=qk HF.out.res rfl
 go_wp2_with fail
 refine (inBounds_says 1 1 4 _).mono ?_
 rintro e w1 ⟨b,rfl,HV,hw⟩
 obtain rfl:b=true:=HV.out.2 ⟨by decide,by decide⟩
 subst hw
 clear HV
 go_wp2
 have q0:=HF.out.res
 have q1:=heap_setCell_same _ w.heap.size 0 _ 209 (.func (Fn.func 189) #[] #[]) q0
 have q2:=heap_setCell_same _ w.heap.size 1 _ 209 (.func (Fn.func 190) #[] #[]) q1
 have q3:=heap_setCell_same _ w.heap.size 2 _ 209 (.func (Fn.func 191) #[] #[]) q2
 have q4:=heap_setCell_same _ w.heap.size 3 _ 209 (.func (Fn.func 192) #[] #[]) q3
 try simp only [Exit.inBlock,Exit.then]
 refine bodyPost_ret (results_gr rfl _ w.heap.size true rfl rfl _ _ _ _ _ q4) rfl ⟨rfl,?_⟩
 exact (((HF.out.below.setCell (by simp) _).setCell (by simp) _).setCell (by simp) _).setCell (by simp) _
theorem genRulesOf_2 (w:World):Calls Tryz.prog 173 #[.int .i64 2] w fun e w'=>e=.returned (.tuple #[.agg #[.func (Fn.func 189) #[] #[],.func (Fn.func 193) #[] #[],.func (Fn.func 194) #[] #[],.func (Fn.func 195) #[] #[]],.bool true])∧Below w.heap.size w w':=by
 go_enter Tryz.func173,Tryz.ntmps173
 go_upto_region 1 with fail
 rename_i K0 hK0
 apply wp_region_lit
 refine wpList_buildTo rfl 209 _ rfl (some 5) rfl #[.func (Fn.func 189) #[] #[],.func (Fn.func 190) #[] #[],.func (Fn.func 191) #[] #[],.func (Fn.func 192) #[] #[]] (by as_aux_lemma=>kernel_rfl) ?_
 refine wpList_buildTo rfl 209 _ rfl (some 6) rfl #[.func (Fn.func 189) #[] #[],.func (Fn.func 193) #[] #[],.func (Fn.func 194) #[] #[],.func (Fn.func 195) #[] #[]] (by as_aux_lemma=>kernel_rfl) ?_
 refine wpList_buildTo rfl 209 _ rfl (some 7) rfl #[.func (Fn.func 196) #[] #[],.func (Fn.func 197) #[] #[],.func (Fn.func 198) #[] #[],.func (Fn.func 199) #[] #[]] (by as_aux_lemma=>kernel_rfl) ?_
 refine wpList_buildTo rfl 209 _ rfl (some 8) rfl #[.func (Fn.func 200) #[] #[],.func (Fn.func 201) #[] #[],.func (Fn.func 202) #[] #[],.func (Fn.func 203) #[] #[]] (by as_aux_lemma=>kernel_rfl) ?_
 refine wpList_buildTo rfl 224 _ rfl (some 9) rfl tabC (by as_aux_lemma=>kernel_rfl) ?_
 refine Great.wpList_allocTo rfl (some 4) rfl _ _ (alloc20b w _ _ rfl) ?_
 refine wpList_store_rowTo rfl 224 _ _ rfl rfl (w.heap.size+1) tabC rfl rfl 224 zero20 (tab_heap w) info20 rfl one20 ?_
 apply wpList_nil
 refine hK0 _ _ ?_
 have HF:Hid (TabF w _):=tabF_is w
 obtain ⟨W,hW⟩:∃ W,W=((w.alloc (.cells #[.nilFunc,.nilFunc,.nilFunc,.nilFunc] 209)).alloc (.cells zero20 224)).setRow (w.heap.size+1) tabC:=⟨_,rfl⟩
 rw [← hW] at HF ⊢
 clear hW hK0 K0
 obtain ⟨TT,hTT⟩:∃ TT,TT=tabC:=⟨_,rfl⟩
 rw [← hTT]
 clear hTT
 have sz:=HF.out.size
 have c0:W.cell? ⟨w.heap.size+1,8,none⟩=some (.func (Fn.func 189) #[] #[]):=HF.out.cell 8
 have c1:W.cell? ⟨w.heap.size+1,9,none⟩=some (.func (Fn.func 193) #[] #[]):=HF.out.cell 9
 have c2:W.cell? ⟨w.heap.size+1,10,none⟩=some (.func (Fn.func 194) #[] #[]):=HF.out.cell 10
 have c3:W.cell? ⟨w.heap.size+1,11,none⟩=some (.func (Fn.func 195) #[] #[]):=HF.out.cell 11
 have fz0:W.frozen? ⟨w.heap.size,0,none⟩=false:=frozen_of_row W w.heap.size 0 _ 209 HF.out.res
 have fz1:W.frozen? ⟨w.heap.size,1,none⟩=false:=frozen_of_row W w.heap.size 1 _ 209 HF.out.res
 have fz2:W.frozen? ⟨w.heap.size,2,none⟩=false:=frozen_of_row W w.heap.size 2 _ 209 HF.out.res
 have fz3:W.frozen? ⟨w.heap.size,3,none⟩=false:=frozen_of_row W w.heap.size 3 _ 209 HF.out.res
 have r0:W.cell? ⟨w.heap.size,0,none⟩=some .nilFunc:=qk HF.out.res rfl
 have r1:W.cell? ⟨w.heap.size,1,none⟩=some .nilFunc:=qk HF.out.res rfl
 have r2:W.cell? ⟨w.heap.size,2,none⟩=some .nilFunc:=qk HF.out.res rfl
 have r3:W.cell? ⟨w.heap.size,3,none⟩=some .nilFunc:=qk HF.out.res rfl
 go_wp2_with fail
 refine (inBounds_says 2 1 4 _).mono ?_
 rintro e w1 ⟨b,rfl,HV,hw⟩
 obtain rfl:b=true:=HV.out.2 ⟨by decide,by decide⟩
 subst hw
 clear HV
 go_wp2
 have q0:=HF.out.res
 have q1:=heap_setCell_same _ w.heap.size 0 _ 209 (.func (Fn.func 189) #[] #[]) q0
 have q2:=heap_setCell_same _ w.heap.size 1 _ 209 (.func (Fn.func 193) #[] #[]) q1
 have q3:=heap_setCell_same _ w.heap.size 2 _ 209 (.func (Fn.func 194) #[] #[]) q2
 have q4:=heap_setCell_same _ w.heap.size 3 _ 209 (.func (Fn.func 195) #[] #[]) q3
 try simp only [Exit.inBlock,Exit.then]
 refine bodyPost_ret (results_gr rfl _ w.heap.size true rfl rfl _ _ _ _ _ q4) rfl ⟨rfl,?_⟩
 exact (((HF.out.below.setCell (by simp) _).setCell (by simp) _).setCell (by simp) _).setCell (by simp) _
theorem genRulesOf_3 (w:World):Calls Tryz.prog 173 #[.int .i64 3] w fun e w'=>e=.returned (.tuple #[.agg #[.func (Fn.func 196) #[] #[],.func (Fn.func 197) #[] #[],.func (Fn.func 198) #[] #[],.func (Fn.func 199) #[] #[]],.bool true])∧Below w.heap.size w w':=by
 go_enter Tryz.func173,Tryz.ntmps173
 go_upto_region 1 with fail
 rename_i K0 hK0
 apply wp_region_lit
 refine wpList_buildTo rfl 209 _ rfl (some 5) rfl #[.func (Fn.func 189) #[] #[],.func (Fn.func 190) #[] #[],.func (Fn.func 191) #[] #[],.func (Fn.func 192) #[] #[]] (by as_aux_lemma=>kernel_rfl) ?_
 refine wpList_buildTo rfl 209 _ rfl (some 6) rfl #[.func (Fn.func 189) #[] #[],.func (Fn.func 193) #[] #[],.func (Fn.func 194) #[] #[],.func (Fn.func 195) #[] #[]] (by as_aux_lemma=>kernel_rfl) ?_
 refine wpList_buildTo rfl 209 _ rfl (some 7) rfl #[.func (Fn.func 196) #[] #[],.func (Fn.func 197) #[] #[],.func (Fn.func 198) #[] #[],.func (Fn.func 199) #[] #[]] (by as_aux_lemma=>kernel_rfl) ?_
 refine wpList_buildTo rfl 209 _ rfl (some 8) rfl #[.func (Fn.func 200) #[] #[],.func (Fn.func 201) #[] #[],.func (Fn.func 202) #[] #[],.func (Fn.func 203) #[] #[]] (by as_aux_lemma=>kernel_rfl) ?_
 refine wpList_buildTo rfl 224 _ rfl (some 9) rfl tabC (by as_aux_lemma=>kernel_rfl) ?_
 refine Great.wpList_allocTo rfl (some 4) rfl _ _ (alloc20b w _ _ rfl) ?_
 refine wpList_store_rowTo rfl 224 _ _ rfl rfl (w.heap.size+1) tabC rfl rfl 224 zero20 (tab_heap w) info20 rfl one20 ?_
 apply wpList_nil
 refine hK0 _ _ ?_
 have HF:Hid (TabF w _):=tabF_is w
 obtain ⟨W,hW⟩:∃ W,W=((w.alloc (.cells #[.nilFunc,.nilFunc,.nilFunc,.nilFunc] 209)).alloc (.cells zero20 224)).setRow (w.heap.size+1) tabC:=⟨_,rfl⟩
 rw [← hW] at HF ⊢
 clear hW hK0 K0
 obtain ⟨TT,hTT⟩:∃ TT,TT=tabC:=⟨_,rfl⟩
 rw [← hTT]
 clear hTT
 have sz:=HF.out.size
 have c0:W.cell? ⟨w.heap.size+1,12,none⟩=some (.func (Fn.func 196) #[] #[]):=HF.out.cell 12
 have c1:W.cell? ⟨w.heap.size+1,13,none⟩=some (.func (Fn.func 197) #[] #[]):=HF.out.cell 13
 have c2:W.cell? ⟨w.heap.size+1,14,none⟩=some (.func (Fn.func 198) #[] #[]):=HF.out.cell 14
 have c3:W.cell? ⟨w.heap.size+1,15,none⟩=some (.func (Fn.func 199) #[] #[]):=HF.out.cell 15
 have fz0:W.frozen? ⟨w.heap.size,0,none⟩=false:=frozen_of_row W w.heap.size 0 _ 209 HF.out.res
 have fz1:W.frozen? ⟨w.heap.size,1,none⟩=false:=frozen_of_row W w.heap.size 1 _ 209 HF.out.res
 have fz2:W.frozen? ⟨w.heap.size,2,none⟩=false:=frozen_of_row W w.heap.size 2 _ 209 HF.out.res
 have fz3:W.frozen? ⟨w.heap.size,3,none⟩=false:=frozen_of_row W w.heap.size 3 _ 209 HF.out.res
 have r0:W.cell? ⟨w.heap.size,0,none⟩=some .nilFunc:=qk HF.out.res rfl
 have r1:W.cell? ⟨w.heap.size,1,none⟩=some .nilFunc:=qk HF.out.res rfl
 have r2:W.cell? ⟨w.heap.size,2,none⟩=some .nilFunc:=qk HF.out.res rfl
 have r3:W.cell? ⟨w.heap.size,3,none⟩=some .nilFunc:=qk HF.out.res rfl
 go_wp2_with fail
 refine (inBounds_says 3 1 4 _).mono ?_
 rintro e w1 ⟨b,rfl,HV,hw⟩
 obtain rfl:b=true:=HV.out.2 ⟨by decide,by decide⟩
 subst hw
 clear HV
 go_wp2
 have q0:=HF.out.res
 have q1:=heap_setCell_same _ w.heap.size 0 _ 209 (.func (Fn.func 196) #[] #[]) q0
 have q2:=heap_setCell_same _ w.heap.size 1 _ 209 (.func (Fn.func 197) #[] #[]) q1
 have q3:=heap_setCell_same _ w.heap.size 2 _ 209 (.func (Fn.func 198) #[] #[]) q2
 have q4:=heap_setCell_same _ w.heap.size 3 _ 209 (.func (Fn.func 199) #[] #[]) q3
 try simp only [Exit.inBlock,Exit.then]
 refine bodyPost_ret (results_gr rfl _ w.heap.size true rfl rfl _ _ _ _ _ q4) rfl ⟨rfl,?_⟩
 exact (((HF.out.below.setCell (by simp) _).setCell (by simp) _).setCell (by simp) _).setCell (by simp) _
theorem genRulesOf_4 (w:World):Calls Tryz.prog 173 #[.int .i64 4] w fun e w'=>e=.returned (.tuple #[.agg #[.func (Fn.func 200) #[] #[],.func (Fn.func 201) #[] #[],.func (Fn.func 202) #[] #[],.func (Fn.func 203) #[] #[]],.bool true])∧Below w.heap.size w w':=by
 go_enter Tryz.func173,Tryz.ntmps173
 go_upto_region 1 with fail
 rename_i K0 hK0
 apply wp_region_lit
 refine wpList_buildTo rfl 209 _ rfl (some 5) rfl #[.func (Fn.func 189) #[] #[],.func (Fn.func 190) #[] #[],.func (Fn.func 191) #[] #[],.func (Fn.func 192) #[] #[]] (by as_aux_lemma=>kernel_rfl) ?_
 refine wpList_buildTo rfl 209 _ rfl (some 6) rfl #[.func (Fn.func 189) #[] #[],.func (Fn.func 193) #[] #[],.func (Fn.func 194) #[] #[],.func (Fn.func 195) #[] #[]] (by as_aux_lemma=>kernel_rfl) ?_
 refine wpList_buildTo rfl 209 _ rfl (some 7) rfl #[.func (Fn.func 196) #[] #[],.func (Fn.func 197) #[] #[],.func (Fn.func 198) #[] #[],.func (Fn.func 199) #[] #[]] (by as_aux_lemma=>kernel_rfl) ?_
 refine wpList_buildTo rfl 209 _ rfl (some 8) rfl #[.func (Fn.func 200) #[] #[],.func (Fn.func 201) #[] #[],.func (Fn.func 202) #[] #[],.func (Fn.func 203) #[] #[]] (by as_aux_lemma=>kernel_rfl) ?_
 refine wpList_buildTo rfl 224 _ rfl (some 9) rfl tabC (by as_aux_lemma=>kernel_rfl) ?_
 refine Great.wpList_allocTo rfl (some 4) rfl _ _ (alloc20b w _ _ rfl) ?_
 refine wpList_store_rowTo rfl 224 _ _ rfl rfl (w.heap.size+1) tabC rfl rfl 224 zero20 (tab_heap w) info20 rfl one20 ?_
 apply wpList_nil
 refine hK0 _ _ ?_
 have HF:Hid (TabF w _):=tabF_is w
 obtain ⟨W,hW⟩:∃ W,W=((w.alloc (.cells #[.nilFunc,.nilFunc,.nilFunc,.nilFunc] 209)).alloc (.cells zero20 224)).setRow (w.heap.size+1) tabC:=⟨_,rfl⟩
 rw [← hW] at HF ⊢
 clear hW hK0 K0
 obtain ⟨TT,hTT⟩:∃ TT,TT=tabC:=⟨_,rfl⟩
 rw [← hTT]
 clear hTT
 have sz:=HF.out.size
 have c0:W.cell? ⟨w.heap.size+1,16,none⟩=some (.func (Fn.func 200) #[] #[]):=HF.out.cell 16
 have c1:W.cell? ⟨w.heap.size+1,17,none⟩=some (.func (Fn.func 201) #[] #[]):=HF.out.cell 17
 have c2:W.cell? ⟨w.heap.size+1,18,none⟩=some (.func (Fn.func 202) #[] #[]):=HF.out.cell 18
 have c3:W.cell? ⟨w.heap.size+1,19,none⟩=some (.func (Fn.func 203) #[] #[]):=HF.out.cell 19
 have fz0:W.frozen? ⟨w.heap.size,0,none⟩=false:=frozen_of_row W w.heap.size 0 _ 209 HF.out.res
 have fz1:W.frozen? ⟨w.heap.size,1,none⟩=false:=frozen_of_row W w.heap.size 1 _ 209 HF.out.res
 have fz2:W.frozen? ⟨w.heap.size,2,none⟩=false:=frozen_of_row W w.heap.size 2 _ 209 HF.out.res
 have fz3:W.frozen? ⟨w.heap.size,3,none⟩=false:=frozen_of_row W w.heap.size 3 _ 209 HF.out.res
 have r0:W.cell? ⟨w.heap.size,0,none⟩=some .nilFunc:=qk HF.out.res rfl
 have r1:W.cell? ⟨w.heap.size,1,none⟩=some .nilFunc:=qk HF.out.res rfl
 have r2:W.cell? ⟨w.heap.size,2,none⟩=some .nilFunc:=qk HF.out.res rfl
 have r3:W.cell? ⟨w.heap.size,3,none⟩=some .nilFunc:=qk HF.out.res rfl
 go_wp2_with fail
 refine (inBounds_says 4 1 4 _).mono ?_
 rintro e w1 ⟨b,rfl,HV,hw⟩
 obtain rfl:b=true:=HV.out.2 ⟨by decide,by decide⟩
 subst hw
 clear HV
 go_wp2
 have q0:=HF.out.res
 have q1:=heap_setCell_same _ w.heap.size 0 _ 209 (.func (Fn.func 200) #[] #[]) q0
 have q2:=heap_setCell_same _ w.heap.size 1 _ 209 (.func (Fn.func 201) #[] #[]) q1
 have q3:=heap_setCell_same _ w.heap.size 2 _ 209 (.func (Fn.func 202) #[] #[]) q2
 have q4:=heap_setCell_same _ w.heap.size 3 _ 209 (.func (Fn.func 203) #[] #[]) q3
 try simp only [Exit.inBlock,Exit.then]
 refine bodyPost_ret (results_gr rfl _ w.heap.size true rfl rfl _ _ _ _ _ q4) rfl ⟨rfl,?_⟩
 exact (((HF.out.below.setCell (by simp) _).setCell (by simp) _).setCell (by simp) _).setCell (by simp) _
theorem genRulesOf_none (k:Int)(w:World)(hk:¬ (1≤k∧k≤4)):Calls Tryz.prog 173 #[.int .i64 k] w fun e w'=>e=.returned (.tuple #[.agg #[.nilFunc,.nilFunc,.nilFunc,.nilFunc],.bool false])∧Below w.heap.size w w':=by
 have HKK:Hid (¬ (1≤k∧k≤4)):=hk
 clear hk
 go_enter Tryz.func173,Tryz.ntmps173
 go_upto_region 1 with fail
 rename_i K0 hK0
 apply wp_region_lit
 refine wpList_buildTo rfl 209 _ rfl (some 5) rfl #[.func (Fn.func 189) #[] #[],.func (Fn.func 190) #[] #[],.func (Fn.func 191) #[] #[],.func (Fn.func 192) #[] #[]] (by as_aux_lemma=>kernel_rfl) ?_
 refine wpList_buildTo rfl 209 _ rfl (some 6) rfl #[.func (Fn.func 189) #[] #[],.func (Fn.func 193) #[] #[],.func (Fn.func 194) #[] #[],.func (Fn.func 195) #[] #[]] (by as_aux_lemma=>kernel_rfl) ?_
 refine wpList_buildTo rfl 209 _ rfl (some 7) rfl #[.func (Fn.func 196) #[] #[],.func (Fn.func 197) #[] #[],.func (Fn.func 198) #[] #[],.func (Fn.func 199) #[] #[]] (by as_aux_lemma=>kernel_rfl) ?_
 refine wpList_buildTo rfl 209 _ rfl (some 8) rfl #[.func (Fn.func 200) #[] #[],.func (Fn.func 201) #[] #[],.func (Fn.func 202) #[] #[],.func (Fn.func 203) #[] #[]] (by as_aux_lemma=>kernel_rfl) ?_
 refine wpList_buildTo rfl 224 _ rfl (some 9) rfl tabC (by as_aux_lemma=>kernel_rfl) ?_
 refine Great.wpList_allocTo rfl (some 4) rfl _ _ (alloc20b w _ _ rfl) ?_
 refine wpList_store_rowTo rfl 224 _ _ rfl rfl (w.heap.size+1) tabC rfl rfl 224 zero20 (tab_heap w) info20 rfl one20 ?_
 apply wpList_nil
 refine hK0 _ _ ?_
 have HF:Hid (TabF w _):=tabF_is w
 obtain ⟨W,hW⟩:∃ W,W=((w.alloc (.cells #[.nilFunc,.nilFunc,.nilFunc,.nilFunc] 209)).alloc (.cells zero20 224)).setRow (w.heap.size+1) tabC:=⟨_,rfl⟩
 rw [← hW] at HF ⊢
 clear hW hK0 K0
 obtain ⟨TT,hTT⟩:∃ TT,TT=tabC:=⟨_,rfl⟩
 rw [← hTT]
 clear hTT
 have sz:=HF.out.size
 have fz0:W.frozen? ⟨w.heap.size,0,none⟩=false:=frozen_of_row W w.heap.size 0 _ 209 HF.out.res
 have fz1:W.frozen? ⟨w.heap.size,1,none⟩=false:=frozen_of_row W w.heap.size 1 _ 209 HF.out.res
 have fz2:W.frozen? ⟨w.heap.size,2,none⟩=false:=frozen_of_row W w.heap.size 2 _ 209 HF.out.res
 have fz3:W.frozen? ⟨w.heap.size,3,none⟩=false:=frozen_of_row W w.heap.size 3 _ 209 HF.out.res
 have r0:W.cell? ⟨w.heap.size,0,none⟩=some .nilFunc:=qk HF.out.res rfl
 have r1:W.cell? ⟨w.heap.size,1,none⟩=some .nilFunc:=qk HF.out.res rfl
 have r2:W.cell? ⟨w.heap.size,2,none⟩=some .nilFunc:=qk HF.out.res rfl
 have r3:W.cell? ⟨w.heap.size,3,none⟩=some .nilFunc:=qk HF.out.res rfl
 go_wp2_with fail
 refine (inBounds_says k 1 4 _).mono ?_
 rintro e w1 ⟨b,rfl,HV,hw⟩
 obtain rfl:b=false:=by
  cases b with
  | false=>rfl
  | true=>exact absurd (HV.out.1 rfl) HKK.out
 subst hw
 clear HV
 go_wp2
 have q0:=HF.out.res
 have q1:=heap_setCell_same _ w.heap.size 0 _ 209 .nilFunc q0
 have q2:=heap_setCell_same _ w.heap.size 1 _ 209 .nilFunc q1
 have q3:=heap_setCell_same _ w.heap.size 2 _ 209 .nilFunc q2
 have q4:=heap_setCell_same _ w.heap.size 3 _ 209 .nilFunc q3
 try simp only [Exit.inBlock,Exit.then]
 refine bodyPost_ret (results_gr rfl _ w.heap.size false rfl rfl _ _ _ _ _ q4) rfl ⟨rfl,?_⟩
 exact (((HF.out.below.setCell (by simp) _).setCell (by simp) _).setCell (by simp) _).setCell (by simp) _
end Go.Proofs.YtmdfbnlgfhjnoaaGreatDoor
