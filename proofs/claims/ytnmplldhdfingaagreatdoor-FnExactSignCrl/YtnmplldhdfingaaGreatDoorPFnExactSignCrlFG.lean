import Derived.LaidMore
import Derived.ShutString
import Derived.ChangeOld
import Derived.ChangeVars
import Derived.Stop.Joined
import Derived.Lay
import Derived.SevenTiedAt
import Derived.Lib.LaidTab
import Derived.Test.YtnmplldhdfingaaGreatDoorCards
import Derived.Test.YtnmplldhdfingaaGreatDoorTie
import Derived.Test.YtnmplldhdfingaaGreatDoorFG48
namespace Go.Proofs.YtnmplldhdfingaaGreatDoor.fnExactSignCrl
open Go.ChangeShapes Go.WideShapes Go.ChangeAt Go.RowKit
set_option linter.unusedVariables false
theorem own:ownKnob Tryz.prog.godebug=none:=by kernel_rfl
theorem laidOut:laidOutB Tryz.prog=true:=by kernel_rfl
theorem pN : Tryz.prog.globalNamed "internal/strconv.uint64pow10" = some 0 := by kernel_rfl
theorem pT:(Tryz.prog.globals[0]?).map (·.type)=some 189:=by kernel_rfl
theorem cellsU:Tryz.prog.cellsOf 29=1:=by kernel_rfl
theorem cellsB:Tryz.prog.cellsOf 189=20:=by kernel_rfl
theorem laid_tail {P:Program}{x:String × DataW Unit}{rest:List (String × DataW Unit)}{W:World}(h:laidMet P (x::rest) W):laidMet P rest W:=by
 obtain ⟨ps,⟨g,t,cs,fuel,p,q,_,_,_,_,hq,hps⟩,hnd,hall⟩:=h
 subst hps
 exact ⟨q,hq,(List.nodup_append.1 hnd).2.1,fun b off hm=>hall b off (List.mem_append.2 (.inr hm))⟩
theorem of_laid {W : World} (h : laidMetH Tryz.prog Rows.fnExactSignCrlRow.laid W) : Lib.TabIs Tryz.prog W "internal/strconv.uint64pow10" .u64 Lib.pow10Tab := by
 rw [MakeChecks.laidMetH_plain _ _ _ (by kernel_rfl)] at h
 have h3 : laidMet Tryz.prog [("internal/strconv.uint64pow10", Rows.laid_internal_strconv_uint64pow10)] W := laid_tail (laid_tail h)
 have h4 : laidMet Tryz.prog [("internal/strconv.uint64pow10", Lib.tabData .u64 Lib.pow10Tab)] W := h3
 exact Lib.tabIs_of_head pN pT Tryz.underlying189 Tryz.underlying29 cellsU cellsB h4
set_option maxRecDepth 100000 in
set_option maxRecDepth 10000 in
set_option maxHeartbeats 4000000 in
theorem lifted (os:Os)(started:os.Started)(H:Type)(enc:TypeId × Value→H) :
  ReturnsInHanded {} Tryz.checked os 3 .any (fun w args=>(Rows.fnExactSignCrlSpec.pre enc Tryz.prog Tryz.f3 [] false w args∧laidMetH Tryz.prog Rows.fnExactSignCrlRow.laid w)∧sizedMet enc Tryz.prog Tryz.f3 (OpenSpec.ofChange Rows.fnExactSignCrlSpec) false w args)
   (Rows.fnExactSignCrlSpec.post enc Tryz.prog Tryz.f3 false true false false):=by
 refine ret_shaped_and (C:=Tryz.checked) (X:=fun w _=>laidMetH Tryz.prog Rows.fnExactSignCrlRow.laid w) (fun _ _ _ hh h=>h.of_heap hh) own started (by kernel_rfl) Tryz.func3
  (ChangeSpec.witness_shaped (enc:=enc) (C:=Tryz.checked) (os:=os) (X:=fun w _=>laidMetH Tryz.prog Rows.fnExactSignCrlRow.laid w) false (World.laidAll Tryz.prog os Rows.fnExactSignCrlRow.laid) #[.agg #[.slice none 0 0,.int .i64 0,.int .i64 0,.int .i64 0,.int .i64 0,.int .i64 0,.bool false,.slice none 0 0,.slice none 0 0],.agg #[.int .i64 0,.int .u64 0,.int .i64 0,.int .i64 0]] 8 (World.laidAll_os _ _ _)
   (World.shaped_of_ZipB (by kernel_rfl) (by kernel_rfl)) (by kernel_rfl) (by kernel_rfl) (by kernel_rfl)
   (by rw [MakeChecks.laidMetH_plain _ _ _ (by kernel_rfl)]; exact laidMet_laidAll _ (by kernel_rfl) (by kernel_rfl))) ?_
 intro W base args ds gs before hval0 hW hL hsh
 have hval:∀ (j:Nat) t v,Tryz.f3.params[j]? = some t→args[j]? = some v→Value.okWide Tryz.prog W .any base t v:=hval0
 have hW':=hW
 obtain ⟨p,q,hA0,hV,rfl,hfz,hnd⟩:=hW
 have hA:DataW.TrodAll enc Tryz.prog W 0 (fun _=>true) true Tryz.f3.params.toList args.toList ds p:=hA0
 rw [Tryz.params3] at hA hval
 obtain ⟨v0,vs0,d0,ds0,p0,q0,hargs,rfl,rfl,h0,r0⟩:=trodAll_cons hA
 obtain ⟨v1,vs1,d1,ds1,p1,q1,rfl,rfl,rfl,h1,r1⟩:=trodAll_cons r0
 obtain ⟨rfl,rfl,rfl⟩:=trodAll_nil r1
 obtain rfl:args=#[v0,v1]:=by cases args; simp_all
 obtain ⟨rfl,rfl⟩:=trodVars_none hV
 obtain ⟨cs0,rfl,hcs0⟩:=okWide_struct Tryz.underlying28 (hval 0 28 v0 rfl rfl)
 have k0:=h0
 have lt0:∀ x∈p0,x.block<W.heap.size:=by obtain ⟨m,hm⟩:=k0; exact DataW.trod_lt m _ _ _ hm
 obtain ⟨a0_1,n0_1,c0_1,a0_2,n0_2,c0_2,a0_3,n0_3,c0_3,x0,hcells0,w0⟩:∃ a0_1 n0_1 c0_1 a0_2 n0_2 c0_2 a0_3 n0_3 c0_3,∃ x0:CP,cs0.toList = [.slice a0_1 n0_1 c0_1,.int .i64 x0.num,.int .i64 x0.base,.int .i64 x0.tm,.int .i64 x0.next,.int .i64 x0.scope,.bool x0.ind,.slice a0_2 n0_2 c0_2,.slice a0_3 n0_3 c0_3]∧Crs W a0_1 n0_1 a0_2 n0_2 a0_3 n0_3 x0∧-9223372036854775808≤x0.scope∧x0.scope≤9223372036854775807:=by
  obtain ⟨fuel,hf⟩:=h0
  exact open_crlW hf
 obtain rfl:cs0=#[.slice a0_1 n0_1 c0_1,.int .i64 x0.num,.int .i64 x0.base,.int .i64 x0.tm,.int .i64 x0.next,.int .i64 x0.scope,.bool x0.ind,.slice a0_2 n0_2 c0_2,.slice a0_3 n0_3 c0_3]:=by
  cases cs0; simp_all
 obtain ⟨cs1,rfl,hcs1⟩:=okWide_struct Tryz.underlying31 (hval 1 31 v1 rfl rfl)
 have k1:=h1
 have lt1:∀ x∈p1,x.block<W.heap.size:=by obtain ⟨m,hm⟩:=k1; exact DataW.trod_lt m _ _ _ hm
 obtain ⟨sc1,kk1,hh1,nx1,hcells1,w1⟩:∃ (sc1 kk1 hh1 nx1:Int),cs1.toList = [.int .i64 sc1,.int .u64 kk1,.int .i64 hh1,.int .i64 nx1]∧U64 kk1:=by
  obtain ⟨fuel,hf⟩:=h1
  exact open_secret hf
 obtain rfl:cs1=#[.int .i64 sc1,.int .u64 kk1,.int .i64 hh1,.int .i64 nx1]:=by
  cases cs1; simp_all
 clear hA0 hval0
 refine (lawSignCrl_all a0_1 n0_1 c0_1 a0_2 n0_2 c0_2 a0_3 n0_3 c0_3 x0 sc1 kk1 hh1 nx1 W (of_laid hL) w0.2 w1 w0.1).mono fun e W' ⟨he,bel⟩=>?_
 subst he
 exact ⟨_,rfl,_,_,_,[],_,[],hW',trodAll_mk1 (shut_bool Tryz.underlying4 _),(trodAll_cons_mk (Below.trod laidOut (by kernel_rfl) (of_decide_eq_true (by kernel_rfl)) k0 bel lt0) (trodAll_cons_mk (Below.trod laidOut (by kernel_rfl) (of_decide_eq_true (by kernel_rfl)) k1 bel lt1) trodAll_mk0)),rfl,bel.frame _,fun h=>by cases h⟩
theorem over:Rows.FnExactSignCrlSaid :=
 OpenClaim.holds_of_wide 3 Tryz.f3 rfl rfl rfl rfl rfl rfl rfl ⟨rfl,rfl,rfl,rfl,rfl⟩ rfl rfl rfl rfl rfl (by kernel_rfl) Tryz.func3 (by kernel_rfl)
  (of_decide_eq_true (by kernel_rfl)) (by unfold Func.isWrapper; first | (rw [if_pos (by decide +kernel)]; kernel_rfl) | (rw [if_neg (by decide +kernel)]; exact ⟨rfl,rfl⟩))
  (fun os started H enc _=>lifted os started H enc)
theorem proved:Rows.FnExactSignCrlCardSaid :=
 Claim7.holds_tied_plain_at .later [] [.data, .data, .data] true (true, "20c2a6dafc9fe0f7df79fa3dd6c4b6668f2625d338e1bde882b066088ec9d366") false
  over (fun _ h=>by cases h) (by kernel_rfl) (fun _ h=>by cases h) fnExactSignCrl_row_tie rfl ⟨rfl,rfl⟩ (by kernel_rfl) rfl
  (fun f fn hf hfn=>by
   obtain rfl:f=3:=Option.some.inj ((show Tryz.prog.funcNamed Rows.fnExactSignCrlRow.func=some 3 by kernel_rfl).symm.trans hf) |>.symm
   obtain rfl:fn=Tryz.f3:=(Option.some.inj (Tryz.func3.symm.trans hfn)).symm
   exact ⟨by kernel_rfl,fun j t ht=>by
    rw [Tryz.params3] at ht
    have hm:t∈[28,31]:=by simpa using Array.mem_of_getElem? ht
    have hall:([28,31].all fun u=>!Tryz.prog.wantsStandIn u)=true:=by kernel_rfl
    exact (show Tryz.prog.wantsStandIn t=false by simpa using List.all_eq_true.1 hall t hm)⟩)
  (by kernel_rfl)
end Go.Proofs.YtnmplldhdfingaaGreatDoor.fnExactSignCrl
namespace Go.Proofs.YtnmplldhdfingaaGreatDoor
theorem fnExactSignCrlCard_holds:Rows.FnExactSignCrlCardSaid:=fnExactSignCrl.proved
#print axioms fnExactSignCrlCard_holds
end Go.Proofs.YtnmplldhdfingaaGreatDoor
