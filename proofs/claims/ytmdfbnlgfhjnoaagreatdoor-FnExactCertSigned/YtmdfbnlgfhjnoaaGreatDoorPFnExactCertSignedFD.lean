import Derived.LaidMore
import Derived.ShutString
import Derived.ChangeOld
import Derived.ChangeVars
import Derived.Stop.Joined
import Derived.Lay
import Derived.SevenTiedAt
import Derived.Test.YtmdfbnlgfhjnoaaGreatDoorCards
import Derived.Test.YtmdfbnlgfhjnoaaGreatDoorTie
import Derived.Test.YtmdfbnlgfhjnoaaGreatDoorLCertSignedFD
namespace Go.Proofs.YtmdfbnlgfhjnoaaGreatDoor.fnExactCertSigned
open Go.ChangeShapes Go.WideShapes Go.ChangeAt Go.RowKit
set_option linter.unusedVariables false
theorem own:ownKnob Tryz.prog.godebug=none:=by kernel_rfl
theorem laidOut:laidOutB Tryz.prog=true:=by kernel_rfl
set_option maxRecDepth 100000 in
set_option maxRecDepth 10000 in
set_option maxHeartbeats 4000000 in
theorem lifted (os:Os)(started:os.Started)(H:Type)(enc:TypeId × Value→H) :
  ReturnsInHanded {} Tryz.checked os 6 .any (fun w args=>(Rows.fnExactCertSignedSpec.pre enc Tryz.prog Tryz.f6 [] false w args∧laidMetH Tryz.prog Rows.fnExactCertSignedRow.laid w)∧sizedMet enc Tryz.prog Tryz.f6 (OpenSpec.ofChange Rows.fnExactCertSignedSpec) false w args)
   (Rows.fnExactCertSignedSpec.post enc Tryz.prog Tryz.f6 false true false false):=by
 refine ret_shaped_and (C:=Tryz.checked) (X:=fun w _=>laidMetH Tryz.prog Rows.fnExactCertSignedRow.laid w) (fun _ _ _ hh h=>h.of_heap hh) own started (by kernel_rfl) Tryz.func6
  (ChangeSpec.witness_shaped (enc:=enc) (C:=Tryz.checked) (os:=os) (X:=fun w _=>laidMetH Tryz.prog Rows.fnExactCertSignedRow.laid w) false (World.laidAll Tryz.prog os Rows.fnExactCertSignedRow.laid) #[.agg #[.int .i64 0,.slice none 0 0,.slice none 0 0,.int .i64 0,.int .i64 0,.int .i64 0,.int .u64 0,.int .i64 0,.bool false,.int .i64 0,.int .i64 0,.slice none 0 0,.slice none 0 0,.slice none 0 0,.slice none 0 0,.slice none 0 0,.int .i64 0,.int .i64 0,.int .i64 0,.slice none 0 0,.slice none 0 0],.agg #[.int .i64 0,.int .u64 0,.int .i64 0]] 8 (World.laidAll_os _ _ _)
   (World.shaped_of_ZipB (by kernel_rfl) (by kernel_rfl)) (by kernel_rfl) (by kernel_rfl) (by kernel_rfl)
   (by rw [MakeChecks.laidMetH_plain _ _ _ (by kernel_rfl)]; exact laidMet_laidAll _ (by kernel_rfl) (by kernel_rfl))) ?_
 intro W base args ds gs before hval0 hW hL hsh
 have hval:∀ (j:Nat) t v,Tryz.f6.params[j]? = some t→args[j]? = some v→Value.okWide Tryz.prog W .any base t v:=hval0
 have hW':=hW
 obtain ⟨p,q,hA0,hV,rfl,hfz,hnd⟩:=hW
 have hA:DataW.TrodAll enc Tryz.prog W 0 (fun _=>true) true Tryz.f6.params.toList args.toList ds p:=hA0
 rw [Tryz.params6] at hA hval
 obtain ⟨v0,vs0,d0,ds0,p0,q0,hargs,rfl,rfl,h0,r0⟩:=trodAll_cons hA
 obtain ⟨v1,vs1,d1,ds1,p1,q1,rfl,rfl,rfl,h1,r1⟩:=trodAll_cons r0
 obtain ⟨rfl,rfl,rfl⟩:=trodAll_nil r1
 obtain rfl:args=#[v0,v1]:=by cases args; simp_all
 obtain ⟨rfl,rfl⟩:=trodVars_none hV
 obtain ⟨cs0,rfl,hcs0⟩:=okWide_struct Tryz.underlying34 (hval 0 34 v0 rfl rfl)
 have k0:=h0
 have lt0:∀ x∈p0,x.block<W.heap.size:=by obtain ⟨m,hm⟩:=k0; exact DataW.trod_lt m _ _ _ hm
 obtain ⟨s0,x0,hcells0,w0⟩:∃ (s0:CES) (x0:CE),cs0.toList = [.int .i64 x0.ser,.slice s0.a1 s0.n1 s0.c1,.slice s0.a2 s0.n2 s0.c2,.int .i64 x0.frm,.int .i64 x0.til,.int .i64 x0.key.1,.int .u64 x0.key.2.1,.int .i64 x0.key.2.2,.bool x0.ca,.int .i64 x0.room,.int .i64 x0.uses,.slice s0.a3 s0.n3 s0.c3,.slice s0.a4 s0.n4 s0.c4,.slice s0.a5 s0.n5 s0.c5,.slice s0.a6 s0.n6 s0.c6,.slice s0.a7 s0.n7 s0.c7,.int .i64 x0.need,.int .i64 x0.nomap,.int .i64 x0.noany,.slice s0.a8 s0.n8 s0.c8,.slice s0.a9 s0.n9 s0.c9]∧CER W s0 x0∧U64 (x0.key.2.1):=by
  obtain ⟨fuel,hf⟩:=h0
  exact open_Cert hf
 obtain rfl:cs0=#[.int .i64 x0.ser,.slice s0.a1 s0.n1 s0.c1,.slice s0.a2 s0.n2 s0.c2,.int .i64 x0.frm,.int .i64 x0.til,.int .i64 x0.key.1,.int .u64 x0.key.2.1,.int .i64 x0.key.2.2,.bool x0.ca,.int .i64 x0.room,.int .i64 x0.uses,.slice s0.a3 s0.n3 s0.c3,.slice s0.a4 s0.n4 s0.c4,.slice s0.a5 s0.n5 s0.c5,.slice s0.a6 s0.n6 s0.c6,.slice s0.a7 s0.n7 s0.c7,.int .i64 x0.need,.int .i64 x0.nomap,.int .i64 x0.noany,.slice s0.a8 s0.n8 s0.c8,.slice s0.a9 s0.n9 s0.c9]:=by
  cases cs0; simp_all
 obtain ⟨cs1,rfl,hcs1⟩:=okWide_struct Tryz.underlying27 (hval 1 27 v1 rfl rfl)
 have k1:=h1
 have lt1:∀ x∈p1,x.block<W.heap.size:=by obtain ⟨m,hm⟩:=k1; exact DataW.trod_lt m _ _ _ hm
 obtain ⟨sc1,yy1,hh1,hcells1,w1⟩:∃ (sc1 yy1 hh1:Int),cs1.toList = [.int .i64 sc1,.int .u64 yy1,.int .i64 hh1]∧U64 yy1:=by
  obtain ⟨fuel,hf⟩:=h1
  exact open_pub hf
 obtain rfl:cs1=#[.int .i64 sc1,.int .u64 yy1,.int .i64 hh1]:=by
  cases cs1; simp_all
 clear hA0 hval0
 refine (lawCertSigned_walk s0 x0 sc1 yy1 hh1 W (Tryz.laysM145.s1_3 W hsh) w0.2 w1 w0.1).mono fun e W' ⟨he,bel⟩=>?_
 subst he
 exact ⟨_,rfl,_,_,_,[],_,[],hW',trodAll_mk1 (shut_bool Tryz.underlying4 _),(trodAll_cons_mk (Below.trod laidOut (by kernel_rfl) (of_decide_eq_true (by kernel_rfl)) k0 bel lt0) (trodAll_cons_mk (Below.trod laidOut (by kernel_rfl) (of_decide_eq_true (by kernel_rfl)) k1 bel lt1) trodAll_mk0)),rfl,bel.frame _,fun h=>by cases h⟩
theorem over:Rows.FnExactCertSignedSaid :=
 OpenClaim.holds_of_wide 6 Tryz.f6 rfl rfl rfl rfl rfl rfl rfl ⟨rfl,rfl,rfl,rfl,rfl⟩ rfl rfl rfl rfl rfl (by kernel_rfl) Tryz.func6 (by kernel_rfl)
  (of_decide_eq_true (by kernel_rfl)) (by unfold Func.isWrapper; first | (rw [if_pos (by decide +kernel)]; kernel_rfl) | (rw [if_neg (by decide +kernel)]; exact ⟨rfl,rfl⟩))
  (fun os started H enc _=>lifted os started H enc)
theorem proved:Rows.FnExactCertSignedCardSaid :=
 Claim7.holds_tied_plain_at .later [] [.data, .pinned] true (true, "34af16c020bf33eeb92ae3363717cf2a54754f7dc243c45ab37d86f6bc17b07f") false
  over (fun _ h=>by cases h) (by kernel_rfl) (fun _ h=>by cases h) fnExactCertSigned_row_tie rfl ⟨rfl,rfl⟩ (by kernel_rfl) rfl
  (fun f fn hf hfn=>by
   obtain rfl:f=6:=Option.some.inj ((show Tryz.prog.funcNamed Rows.fnExactCertSignedRow.func=some 6 by kernel_rfl).symm.trans hf) |>.symm
   obtain rfl:fn=Tryz.f6:=(Option.some.inj (Tryz.func6.symm.trans hfn)).symm
   exact ⟨by kernel_rfl,fun j t ht=>by
    rw [Tryz.params6] at ht
    have hm:t∈[34,27]:=by simpa using Array.mem_of_getElem? ht
    have hall:([34,27].all fun u=>!Tryz.prog.wantsStandIn u)=true:=by kernel_rfl
    exact (show Tryz.prog.wantsStandIn t=false by simpa using List.all_eq_true.1 hall t hm)⟩)
  (by kernel_rfl)
end Go.Proofs.YtmdfbnlgfhjnoaaGreatDoor.fnExactCertSigned
namespace Go.Proofs.YtmdfbnlgfhjnoaaGreatDoor
theorem fnExactCertSignedCard_holds:Rows.FnExactCertSignedCardSaid:=fnExactCertSigned.proved
#print axioms fnExactCertSignedCard_holds
end Go.Proofs.YtmdfbnlgfhjnoaaGreatDoor
