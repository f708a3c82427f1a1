import Derived.LaidMore
import Derived.ShutString
import Derived.ChangeOld
import Derived.ChangeVars
import Derived.Below
import Derived.Stop.Joined
import Derived.Lay
import Derived.SevenTiedAt
import Derived.Test.YtmdfbnlgfhjnoaaGreatDoorCards
import Derived.Test.YtmdfbnlgfhjnoaaGreatDoorTie
import Derived.Test.YtmdfbnlgfhjnoaaGreatDoorLReqOkFC
namespace Go.Proofs.YtmdfbnlgfhjnoaaGreatDoor.fnExactReqOk
open Go.ChangeShapes Go.WideShapes Go.ChangeAt Go.RowKit
set_option linter.unusedVariables false
theorem own:ownKnob Tryz.prog.godebug=none:=by kernel_rfl
theorem laidOut:laidOutB Tryz.prog=true:=by kernel_rfl
set_option maxRecDepth 100000 in
set_option maxRecDepth 10000 in
set_option maxHeartbeats 4000000 in
theorem lifted (os:Os)(started:os.Started)(H:Type)(enc:TypeId × Value→H) :
  ReturnsInHanded {} Tryz.checked os 7 .any (fun w args=>(Rows.fnExactReqOkSpec.pre enc Tryz.prog Tryz.f7 [] false w args∧laidMetH Tryz.prog Rows.fnExactReqOkRow.laid w)∧sizedMet enc Tryz.prog Tryz.f7 (OpenSpec.ofChange Rows.fnExactReqOkSpec) false w args)
   (Rows.fnExactReqOkSpec.post enc Tryz.prog Tryz.f7 false true false false):=by
 refine ret_shaped_and (C:=Tryz.checked) (X:=fun w _=>laidMetH Tryz.prog Rows.fnExactReqOkRow.laid w) (fun _ _ _ hh h=>h.of_heap hh) own started (by kernel_rfl) Tryz.func7
  (ChangeSpec.witness_shaped (enc:=enc) (C:=Tryz.checked) (os:=os) (X:=fun w _=>laidMetH Tryz.prog Rows.fnExactReqOkRow.laid w) false (World.laidAll Tryz.prog os Rows.fnExactReqOkRow.laid) #[.agg #[.slice none 0 0,.slice none 0 0,.int .i64 0,.int .u64 0,.int .i64 0,.slice none 0 0]] 8 (World.laidAll_os _ _ _)
   (World.shaped_of_ZipB (by kernel_rfl) (by kernel_rfl)) (by kernel_rfl) (by kernel_rfl) (by kernel_rfl)
   (by rw [MakeChecks.laidMetH_plain _ _ _ (by kernel_rfl)]; exact laidMet_laidAll _ (by kernel_rfl) (by kernel_rfl))) ?_
 intro W base args ds gs before hval0 hW hL hsh
 have hval:∀ (j:Nat) t v,Tryz.f7.params[j]? = some t→args[j]? = some v→Value.okWide Tryz.prog W .any base t v:=hval0
 have hW':=hW
 obtain ⟨p,q,hA0,hV,rfl,hfz,hnd⟩:=hW
 have hA:DataW.TrodAll enc Tryz.prog W 0 (fun _=>true) true Tryz.f7.params.toList args.toList ds p:=hA0
 rw [Tryz.params7] at hA hval
 obtain ⟨v0,vs0,d0,ds0,p0,q0,hargs,rfl,rfl,h0,r0⟩:=trodAll_cons hA
 obtain ⟨rfl,rfl,rfl⟩:=trodAll_nil r0
 obtain rfl:args=#[v0]:=by cases args; simp_all
 obtain ⟨rfl,rfl⟩:=trodVars_none hV
 obtain ⟨cs0,rfl,hcs0⟩:=okWide_struct Tryz.underlying58 (hval 0 58 v0 rfl rfl)
 have k0:=h0
 have lt0:∀ x∈p0,x.block<W.heap.size:=by obtain ⟨m,hm⟩:=k0; exact DataW.trod_lt m _ _ _ hm
 obtain ⟨s,x,hcells0,hxs0⟩:∃ (s:RQS) (x:RQ),cs0.toList = [.slice s.a1 s.n1 s.c1,.slice s.a2 s.n2 s.c2,.int .i64 x.key.1,.int .u64 x.key.2.1,.int .i64 x.key.2.2,.slice s.a3 s.n3 s.c3]∧RQR W s x∧U64 (x.key.2.1):=by
  obtain ⟨fuel,hf⟩:=h0
  exact open_Req hf
 obtain rfl:cs0=#[.slice s.a1 s.n1 s.c1,.slice s.a2 s.n2 s.c2,.int .i64 x.key.1,.int .u64 x.key.2.1,.int .i64 x.key.2.2,.slice s.a3 s.n3 s.c3]:=by
  cases cs0; simp_all
 clear hA0 hval0
 refine (lawReqOk_walk s x W (Tryz.laysM145.s1_3 W hsh) hxs0.2 hxs0.1).mono fun e W' ⟨he,bel⟩=>?_
 subst he
 exact ⟨_,rfl,_,_,_,[],_,[],hW',trodAll_mk1 (shut_bool Tryz.underlying4 _),(trodAll_cons_mk (Below.trod laidOut (by kernel_rfl) (of_decide_eq_true (by kernel_rfl)) k0 bel lt0) trodAll_mk0),rfl,bel.frame _,fun h=>by cases h⟩
theorem over:Rows.FnExactReqOkSaid :=
 OpenClaim.holds_of_wide 7 Tryz.f7 rfl rfl rfl rfl rfl rfl rfl ⟨rfl,rfl,rfl,rfl,rfl⟩ rfl rfl rfl rfl rfl (by kernel_rfl) Tryz.func7 (by kernel_rfl)
  (of_decide_eq_true (by kernel_rfl)) (by unfold Func.isWrapper; first | (rw [if_pos (by decide +kernel)]; kernel_rfl) | (rw [if_neg (by decide +kernel)]; exact ⟨rfl,rfl⟩))
  (fun os started H enc _=>lifted os started H enc)
theorem proved:Rows.FnExactReqOkCardSaid :=
 Claim7.holds_tied_plain_at .later [] [.data, .pinned] true (true, "34af16c020bf33eeb92ae3363717cf2a54754f7dc243c45ab37d86f6bc17b07f") false
  over (fun _ h=>by cases h) (by kernel_rfl) (fun _ h=>by cases h) fnExactReqOk_row_tie rfl ⟨rfl,rfl⟩ (by kernel_rfl) rfl
  (fun f fn hf hfn=>by
   obtain rfl:f=7:=Option.some.inj ((show Tryz.prog.funcNamed Rows.fnExactReqOkRow.func=some 7 by kernel_rfl).symm.trans hf) |>.symm
   obtain rfl:fn=Tryz.f7:=(Option.some.inj (Tryz.func7.symm.trans hfn)).symm
   exact ⟨by kernel_rfl,fun j t ht=>by
    rw [Tryz.params7] at ht
    have hm:t∈[58]:=by simpa using Array.mem_of_getElem? ht
    have hall:([58].all fun u=>!Tryz.prog.wantsStandIn u)=true:=by kernel_rfl
    exact (show Tryz.prog.wantsStandIn t=false by simpa using List.all_eq_true.1 hall t hm)⟩)
  (by kernel_rfl)
end Go.Proofs.YtmdfbnlgfhjnoaaGreatDoor.fnExactReqOk
namespace Go.Proofs.YtmdfbnlgfhjnoaaGreatDoor
theorem fnExactReqOkCard_holds:Rows.FnExactReqOkCardSaid:=fnExactReqOk.proved
#print axioms fnExactReqOkCard_holds
end Go.Proofs.YtmdfbnlgfhjnoaaGreatDoor
