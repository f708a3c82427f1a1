import Derived.Test.YtaiflnccpgcklaaDoorCards
import Derived.Test.YtaiflnccpgcklaaDoorTie
import Derived.Test.YtaiflnccpgcklaaDoorLShowSchema
import Derived.Test.YtaiflnccpgcklaaDoorHSh
import Derived.Deep.Slices
import Derived.ChangeArms
import Derived.ChangeSlices
import Derived.WalkKit
import Derived.ProofKit
import Derived.LaidMore
import Derived.OpenShut
import Derived.OpenVars
import Derived.ShutString
import Derived.ChangeOld
import Derived.ChangeVars
import Derived.WalkSmall
import Derived.Below
import Derived.Stop.Joined
import Derived.Lay
import Derived.SevenTiedAt
import Derived.Lib.LaidTab
namespace Go.Proofs.YtaiflnccpgcklaaDoor.fnExactShowSchema
open Go.ChangeShapes Go.WideShapes Go.ChangeAt Go.RowKit
set_option linter.unusedVariables false

theorem own : ownKnob Tryd.prog.godebug = none := by kernel_rfl
theorem laidOut : laidOutB Tryd.prog = true := by kernel_rfl
theorem gN : Tryd.prog.globalNamed "loop.example/g00041/impl.kindForms" = some 0 := by kernel_rfl
theorem gT : (Tryd.prog.globals[0]?).map (·.type) = some 62 := by kernel_rfl
theorem pN : Tryd.prog.globalNamed "internal/strconv.uint64pow10" = some 2 := by kernel_rfl
theorem pT : (Tryd.prog.globals[2]?).map (·.type) = some 81 := by kernel_rfl
theorem cellsU : Tryd.prog.cellsOf 46 = 1 := by kernel_rfl
theorem cellsB : Tryd.prog.cellsOf 81 = 20 := by kernel_rfl
theorem cellsK : Tryd.prog.cellsOf 61 = 3 := by kernel_rfl

theorem laid_tail {P : Program} {x : String × DataW Unit} {rest : List (String × DataW Unit)} {W : World} (h : laidMet P (x :: rest) W) : laidMet P rest W := by
  obtain ⟨ps, ⟨g, t, cs, fuel, p, q, _, _, _, _, hq, hps⟩, hnd, hall⟩ := h
  subst hps
  exact ⟨q, hq, (List.nodup_append.1 hnd).2.1, fun b off hm => hall b off (List.mem_append.2 (.inr hm))⟩

def dataL {H : Type} : List (DataW H) := (List.range 10).map fun k => .agg [.lit (.string (wordsL.getD k [])), .lit (.bool (kLo k)), .lit (.bool (kHi k))]
theorem laid_data {H : Type} : (Rows.laid_loop_example_g00041_impl_kindForms : DataW H) = .agg dataL := rfl

theorem form_of {H : Type} {enc : TypeId × Value → H} {W : World} {sp : Nat → Bool} {held : Bool} {fuel : Nat} {cs : List Value} {x : DataW H × List MemPlace} (h : DataW.trod enc Tryd.prog W 0 sp held fuel 61 cs = some x) :
    ∃ (s : ByteArray) (b1 b2 : Bool), cs = [.string s, .bool b1, .bool b2] ∧ x.1 = .agg [.lit (.string s.data.toList), .lit (.bool b1), .lit (.bool b2)] := by
  obtain ⟨xs, m, rfl, hx, hl, hxl, hf⟩ := DataW.trod_struct Tryd.underlying61 h
  have hl3 : cs.length = 3 := hl.trans cellsK
  have hx3 : xs.length = 3 := hxl
  obtain ⟨c0, c1, c2, rfl⟩ : ∃ c0 c1 c2, cs = [c0, c1, c2] := by
    match cs, hl3 with
    | [c0, c1, c2], _ => exact ⟨c0, c1, c2, rfl⟩
  obtain ⟨x0, x1, x2, rfl⟩ : ∃ c0 c1 c2, xs = [c0, c1, c2] := by
    match xs, hx3 with
    | [c0, c1, c2], _ => exact ⟨c0, c1, c2, rfl⟩
  have e1 : Tryd.prog.cellsOf 9 = 1 := by kernel_rfl
  have e2 : Tryd.prog.cellsOf 4 = 1 := by kernel_rfl
  have f0 : DataW.trod enc Tryd.prog W 0 sp held m 9 ((([c0, c1, c2] : List Value).drop 0).take (Tryd.prog.cellsOf 9)) = some x0 := hf 0 _ rfl
  rw [e1] at f0
  have f1 : DataW.trod enc Tryd.prog W 0 sp held m 4 ((([c0, c1, c2] : List Value).drop 1).take (Tryd.prog.cellsOf 4)) = some x1 := hf 1 _ rfl
  rw [e2] at f1
  have f2 : DataW.trod enc Tryd.prog W 0 sp held m 4 ((([c0, c1, c2] : List Value).drop 2).take (Tryd.prog.cellsOf 4)) = some x2 := hf 2 _ rfl
  rw [e2] at f2
  obtain ⟨s, h0, y0, _⟩ := DataW.trod_string Tryd.underlying9 f0
  obtain ⟨b1, h1, y1⟩ := DataW.trod_bool Tryd.underlying4 f1
  obtain ⟨b2, h2, y2⟩ := DataW.trod_bool Tryd.underlying4 f2
  simp at h0 h1 h2
  subst h0 h1 h2 y0 y1 y2
  exact ⟨s, b1, b2, rfl, by rw [hx]; rfl⟩

theorem forms_of {W : World} {p : List MemPlace} {cs : Array Value} {fuel : Nat} (hv : W.var? Tryd.prog "loop.example/g00041/impl.kindForms" = some cs) (h : DataW.trod (fun _ => ()) Tryd.prog W 0 (fun _ => true) false fuel 62 cs.toList = some (Rows.laid_loop_example_g00041_impl_kindForms, p)) : FormW W := by
  obtain ⟨xs, m, rfl, hx, hl, hxl, hf⟩ := DataW.trod_array Tryd.underlying62 h
  have hd : xs.map (·.1) = dataL := by
    have h1 := congrArg Prod.fst hx
    rw [laid_data] at h1
    exact (DataW.agg.inj h1).symm
  have key : ∀ k, k ≤ 9 → (cs.toList.drop (k * 3)).take 3 = [.string (kword k), .bool (kLo k), .bool (kHi k)] := fun k hk => by
    have h1 := hf k (by omega)
    rw [cellsK] at h1
    have hk2 : k < xs.length := by omega
    rw [List.getElem?_eq_getElem hk2] at h1
    obtain ⟨s, b1, b2, hc, hy⟩ := form_of h1
    have h2 : (xs.map (·.1))[k]? = some (xs[k].1) := by simp [hk2]
    rw [hd, hy] at h2
    have h3 : (dataL : List (DataW Unit))[k]? = some (.agg [.lit (.string (wordsL.getD k [])), .lit (.bool (kLo k)), .lit (.bool (kHi k))]) := by
      unfold dataL
      rw [List.getElem?_map, List.getElem?_range (by omega)]
      rfl
    rw [h3] at h2
    simp only [Option.some.injEq, DataW.agg.injEq, List.cons.injEq, DataW.lit.injEq, Lit.string.injEq, Lit.bool.injEq, and_true] at h2
    obtain ⟨g1, g2, g3⟩ := h2
    have es : s = kword k := ba_ext (by rw [← g1]; simp [kword])
    rw [hc, es, g2, g3]
  have cell : ∀ k j, k ≤ 9 → j < 3 → W.cell? ⟨0, k * 3 + j, none⟩ = [Value.string (kword k), .bool (kLo k), .bool (kHi k)][j]? := fun k j hk hj => by
    rw [World.var?_cell gN hv, ← key k hk, List.getElem?_take_of_lt hj, List.getElem?_drop, Array.getElem?_toList]
  exact ⟨fun k hk => cell k 0 hk (by omega), fun k hk => cell k 1 hk (by omega), fun k hk => cell k 2 hk (by omega)⟩

theorem of_laid {W : World} (h : laidMetH Tryd.prog Rows.fnExactShowSchemaRow.laid W) : FormW W ∧ PowW W := by
  rw [MakeChecks.laidMetH_plain _ _ _ (by kernel_rfl)] at h
  have h3 : laidMet Tryd.prog [("internal/strconv.uint64pow10", Rows.laid_internal_strconv_uint64pow10), ("loop.example/g00041/impl.kindForms", Rows.laid_loop_example_g00041_impl_kindForms)] W := laid_tail (laid_tail h)
  have h4 : laidMet Tryd.prog [("internal/strconv.uint64pow10", Lib.tabData .u64 Lib.pow10Tab), ("loop.example/g00041/impl.kindForms", Rows.laid_loop_example_g00041_impl_kindForms)] W := h3
  obtain ⟨ps, ⟨g', t', cs, fuel, p, q, hg', ht', hvar, hd, _, _⟩, _⟩ := laid_tail h3
  obtain rfl := Option.some.inj (gN.symm.trans hg')
  obtain rfl := Option.some.inj (gT.symm.trans ht')
  exact ⟨forms_of hvar hd, Lib.tabIs_of_head pN pT Tryd.underlying81 Tryd.underlying46 cellsU cellsB h4⟩

theorem open_row64 {H : Type} {enc : TypeId × Value → H} {W : World} {fuel : Nat} {cs : List Value} {x : DataW H × List MemPlace} (h : DataW.trod enc Tryd.prog W 0 (fun _ => true) true fuel 31 cs = some x) :
    ∃ a n cap zs, cs = [.slice a n cap] ∧ Row64 W a n zs ∧ n ≤ 9223372036854775807 := by
  rcases open_ints Tryd.underlying31 Tryd.underlying2 (by kernel_rfl) h with ⟨rfl, _⟩ | ⟨a, len, cap, zs, rfl, _, hl, hm, hz, _, hc, _⟩
  · exact ⟨none, 0, 0, [], rfl, ⟨rfl, fun k hk => absurd hk (Nat.not_lt_zero _)⟩, by decide⟩
  · have hz' : zs.length = cap := by simpa using hz
    refine ⟨some a, len, cap, zs.take len, rfl, ⟨by rw [List.length_take]; omega, fun k hk => ?_⟩, by unfold maxLen at hm; omega⟩
    have h0 := hc k (by omega)
    obtain ⟨b, off, spot⟩ := a
    have hs : spot = none := by simpa [Addr.add] using World.cell?_spot (hc 0 (by omega))
    subst hs
    rw [Addr.add_lit] at h0
    refine ⟨b, off, rfl, World.block_lt_of_cell? W _ h0, h0.trans ?_⟩
    simp [hk]

def OpensT (W : World) (y : ST) (cs : List Value) : Prop := ∃ a n c, cs = [.int .i64 y.kind, .int .i64 y.lo, .int .i64 y.hi, .bool y.ext, .bool y.opt, .slice a n c] ∧ Row64 W a n y.kids ∧ n ≤ 9223372036854775807

theorem open_st {H : Type} {enc : TypeId × Value → H} {W : World} {fuel : Nat} {cs : List Value} {x : DataW H × List MemPlace} (h : DataW.trod enc Tryd.prog W 0 (fun _ => true) true fuel 33 cs = some x) : ∃ y, OpensT W y cs := by
  obtain ⟨xs, m, rfl, _, hl, hxl, hf⟩ := DataW.trod_struct Tryd.underlying33 h
  have hl5 : cs.length = 6 := hl.trans (by kernel_rfl)
  have hx5 : xs.length = 6 := hxl
  obtain ⟨c0, c1, c2, c3, c4, c5, rfl⟩ : ∃ c0 c1 c2 c3 c4 c5, cs = [c0, c1, c2, c3, c4, c5] := by
    match cs, hl5 with
    | [c0, c1, c2, c3, c4, c5], _ => exact ⟨c0, c1, c2, c3, c4, c5, rfl⟩
  obtain ⟨x0, x1, x2, x3, x4, x5, rfl⟩ : ∃ c0 c1 c2 c3 c4 c5, xs = [c0, c1, c2, c3, c4, c5] := by
    match xs, hx5 with
    | [c0, c1, c2, c3, c4, c5], _ => exact ⟨c0, c1, c2, c3, c4, c5, rfl⟩
  have e1 : Tryd.prog.cellsOf 2 = 1 := by kernel_rfl
  have e2 : Tryd.prog.cellsOf 4 = 1 := by kernel_rfl
  have e3 : Tryd.prog.cellsOf 31 = 1 := by kernel_rfl
  have f0 : DataW.trod enc Tryd.prog W 0 (fun _ => true) true m 2 ((([c0, c1, c2, c3, c4, c5] : List Value).drop 0).take (Tryd.prog.cellsOf 2)) = some x0 := hf 0 _ rfl
  rw [e1] at f0
  have f1 : DataW.trod enc Tryd.prog W 0 (fun _ => true) true m 2 ((([c0, c1, c2, c3, c4, c5] : List Value).drop 1).take (Tryd.prog.cellsOf 2)) = some x1 := hf 1 _ rfl
  rw [e1] at f1
  have f2 : DataW.trod enc Tryd.prog W 0 (fun _ => true) true m 2 ((([c0, c1, c2, c3, c4, c5] : List Value).drop 2).take (Tryd.prog.cellsOf 2)) = some x2 := hf 2 _ rfl
  rw [e1] at f2
  have f3 : DataW.trod enc Tryd.prog W 0 (fun _ => true) true m 4 ((([c0, c1, c2, c3, c4, c5] : List Value).drop 3).take (Tryd.prog.cellsOf 4)) = some x3 := hf 3 _ rfl
  rw [e2] at f3
  have f4 : DataW.trod enc Tryd.prog W 0 (fun _ => true) true m 4 ((([c0, c1, c2, c3, c4, c5] : List Value).drop 4).take (Tryd.prog.cellsOf 4)) = some x4 := hf 4 _ rfl
  rw [e2] at f4
  have f5 : DataW.trod enc Tryd.prog W 0 (fun _ => true) true m 31 ((([c0, c1, c2, c3, c4, c5] : List Value).drop 5).take (Tryd.prog.cellsOf 31)) = some x5 := hf 5 _ rfl
  rw [e3] at f5
  obtain ⟨n0, h0, _, _⟩ := DataW.trod_int Tryd.underlying2 f0
  obtain ⟨n1, h1, _, _⟩ := DataW.trod_int Tryd.underlying2 f1
  obtain ⟨n2, h2, _, _⟩ := DataW.trod_int Tryd.underlying2 f2
  obtain ⟨b3, h3, _⟩ := DataW.trod_bool Tryd.underlying4 f3
  obtain ⟨b4, h4, _⟩ := DataW.trod_bool Tryd.underlying4 f4
  obtain ⟨ak, nk, ck, ks, h5, hr, hn⟩ := open_row64 f5
  simp at h0 h1 h2 h3 h4 h5
  subst h0 h1 h2 h3 h4 h5
  exact ⟨⟨n0, n1, n2, b3, b4, ks⟩, ak, nk, ck, rfl, hr, hn⟩

theorem open_sts {H : Type} {enc : TypeId × Value → H} {W : World} {fuel : Nat} {cs : List Value} {x : DataW H × List MemPlace} (h : DataW.trod enc Tryd.prog W 0 (fun _ => true) true fuel 22 cs = some x) : ∃ a n c xs, cs = [.slice a n c] ∧ Sts W a n xs := by
  rcases DataW.trod_slice Tryd.underlying22 h with ⟨rfl, _⟩ | ⟨a, len, cap, elems, rest, n, rfl, rfl, _, _, hl, hm, hlen, hel, _, _⟩
  · exact ⟨none, 0, 0, [], rfl, ⟨rfl, by decide, fun k hk => absurd hk (by omega)⟩⟩
  · have ec : Tryd.prog.cellsOf 33 = 6 := by kernel_rfl
    rw [ec] at hel
    have each : ∀ i, i < len → ∃ y : ST, ∃ cs', W.cells? 0 (a.add (i * 6)) 6 = some cs' ∧ OpensT W y cs' := by
      intro i hi
      have he := hel i hi
      rw [List.getElem?_eq_getElem (by omega)] at he
      cases hc : W.cells? 0 (a.add (i * 6)) 6 with
      | none => rw [hc] at he; cases he
      | some cs' =>
        rw [hc] at he
        obtain ⟨y, hy⟩ := open_st he
        exact ⟨y, cs', rfl, hy⟩
    obtain ⟨y, hy⟩ := Go.Deep.choose_lt each
    have hm' : len ≤ 9223372036854775807 := by unfold maxLen at hm; omega
    refine ⟨some a, len, cap, (List.range len).map y, rfl, ⟨by simp, hm', fun k hk => ?_⟩⟩
    obtain ⟨cs', hcs, ak, nk, ck, rfl, hr, hnk⟩ := hy k hk
    obtain ⟨_, _, hcell⟩ := World.cells?_some hcs
    obtain ⟨b, off, spot⟩ := a
    have hs : spot = none := by
      obtain ⟨cs0, hcs0, _⟩ := hy 0 (by omega)
      obtain ⟨_, hl0, hcell0⟩ := World.cells?_some hcs0
      have h00 := hcell0 0 (by omega)
      rw [List.getElem?_eq_getElem (by omega)] at h00
      simpa [Addr.add] using World.cell?_spot h00
    subst hs
    have ey : ((List.range len).map y).getD k default = y k := by simp [hk]
    rw [ey]
    have cc : ∀ j, j < 6 → W.cell? ⟨b, off + k * 6 + j, none⟩ = [Value.int .i64 (y k).kind, .int .i64 (y k).lo, .int .i64 (y k).hi, .bool (y k).ext, .bool (y k).opt, .slice ak nk ck][j]? := by
      intro j hj
      have := hcell j hj
      rw [Addr.add_lit, Addr.add_lit] at this
      exact this
    exact ⟨b, off, rfl, World.block_lt_of_cell? W _ (cc 0 (by omega)), ak, nk, ck, ⟨cc 0 (by omega), cc 1 (by omega), cc 2 (by omega), cc 3 (by omega), cc 4 (by omega), cc 5 (by omega)⟩, hr, hnk⟩

set_option maxRecDepth 100000 in
set_option maxHeartbeats 4000000 in
theorem lifted (os : Os) (started : os.Started) (H : Type) (enc : TypeId × Value → H) :
    ReturnsInHanded {} Tryd.checked os 3 .any (fun w args => (Rows.fnExactShowSchemaSpec.pre enc Tryd.prog Tryd.f3 [] false w args ∧ laidMetH Tryd.prog Rows.fnExactShowSchemaRow.laid w) ∧ sizedMet enc Tryd.prog Tryd.f3 (OpenSpec.ofChange Rows.fnExactShowSchemaSpec) false w args)
      (Rows.fnExactShowSchemaSpec.post enc Tryd.prog Tryd.f3 false true false false) := by
  refine ret_shaped_and (C := Tryd.checked) (X := fun w _ => laidMetH Tryd.prog Rows.fnExactShowSchemaRow.laid w) (fun _ _ _ hh h => h.of_heap hh) own started (by kernel_rfl) Tryd.func3
    (ChangeSpec.witness_shaped (enc := enc) (C := Tryd.checked) (os := os) (X := fun w _ => laidMetH Tryd.prog Rows.fnExactShowSchemaRow.laid w) false (World.laidAll Tryd.prog os Rows.fnExactShowSchemaRow.laid) #[.slice none 0 0] 8 (World.laidAll_os _ _ _)
      (World.shaped_of_ZipB (by kernel_rfl) (by kernel_rfl)) (by kernel_rfl) (by kernel_rfl) (by kernel_rfl)
      (by rw [MakeChecks.laidMetH_plain _ _ _ (by kernel_rfl)]; exact laidMet_laidAll _ (by kernel_rfl) (by kernel_rfl))) ?_
  intro W base args ds gs before hval0 hW hL hsh
  have hval : ∀ (j : Nat) t v, Tryd.f3.params[j]? = some t → args[j]? = some v → Value.okWide Tryd.prog W .any base t v := hval0
  have hW' := hW
  obtain ⟨p, q, hA0, hV, rfl, hfz, hnd⟩ := hW
  have hA : DataW.TrodAll enc Tryd.prog W 0 (fun _ => true) true Tryd.f3.params.toList args.toList ds p := hA0
  rw [Tryd.params3] at hA hval
  obtain ⟨v0, vs0, d0, ds0, p0, q0, hargs, rfl, rfl, h0, r0⟩ := trodAll_cons hA
  obtain ⟨rfl, rfl, rfl⟩ := trodAll_nil r0
  obtain rfl : args = #[v0] := by cases args; simp_all
  have hV0 := hV
  obtain ⟨g, t, cs, fuel, dv, pv, rfl, _⟩ := trodVars_one hV
  obtain ⟨a0, len0, cap0, rfl⟩ := okWide_slice Tryd.underlying22 (hval 0 22 v0 rfl rfl)
  have k0 := h0
  have lt0 : ∀ x ∈ p0, x.block < W.heap.size := by obtain ⟨m, hm⟩ := k0; exact DataW.trod_lt m _ _ _ hm
  obtain ⟨xs, hxs⟩ : ∃ xs, Sts W a0 len0 xs := by
    obtain ⟨fuel, hf⟩ := h0
    obtain ⟨a, n, cap, xs, hcs, hx⟩ := open_sts hf
    simp [Value.cells] at hcs
    obtain ⟨rfl, rfl, rfl⟩ := hcs
    exact ⟨xs, hx⟩
  obtain ⟨hForm, hPow⟩ := of_laid hL
  clear hA0 hval0
  refine (lawShowSchema_walk a0 len0 cap0 xs W hxs hForm hPow).mono fun e W' ⟨he, bel⟩ => ?_
  subst he
  exact ⟨_, rfl, _, _, _, [], _, _, hW', trodAll_mk1 (shut_bool Tryd.underlying4 _), (trodAll_cons_mk (Below.trod laidOut (by kernel_rfl) (of_decide_eq_true (by kernel_rfl)) k0 bel lt0) trodAll_mk0), Below.trodVars laidOut bel (by kernel_rfl) hV0, bel.frame _, fun h => by cases h⟩

theorem over : Rows.FnExactShowSchemaSaid :=
  OpenClaim.holds_of_wide 3 Tryd.f3 rfl rfl rfl rfl rfl rfl rfl ⟨rfl, rfl, rfl, rfl, rfl⟩ rfl rfl rfl rfl rfl (by kernel_rfl) Tryd.func3 (by kernel_rfl)
    (of_decide_eq_true (by kernel_rfl)) (by unfold Func.isWrapper; first | (rw [if_pos (by decide +kernel)]; kernel_rfl) | (rw [if_neg (by decide +kernel)]; exact ⟨rfl, rfl⟩))
    (fun os started H enc _ => lifted os started H enc)

theorem proved : Rows.FnExactShowSchemaCardSaid :=
  Claim7.holds_tied_plain_at .later [] [.data, .data, .data, .data] true (true, "c1f0e8bb304df24909562eb38b2ee8ca3eb75a955c759314b5fbd5ec6bbb63df") false
    over (fun _ h => by cases h) (by kernel_rfl) (fun _ h => by cases h) fnExactShowSchema_row_tie rfl ⟨rfl, rfl⟩ (by kernel_rfl) rfl
    (fun f fn hf hfn => by
      obtain rfl : f = 3 := Option.some.inj ((show Tryd.prog.funcNamed Rows.fnExactShowSchemaRow.func = some 3 by kernel_rfl).symm.trans hf) |>.symm
      obtain rfl : fn = Tryd.f3 := (Option.some.inj (Tryd.func3.symm.trans hfn)).symm
      exact ⟨by kernel_rfl, fun j t ht => by
        rw [Tryd.params3] at ht
        have hm : t ∈ [22] := by simpa using Array.mem_of_getElem? ht
        have hall : ([22].all fun u => !Tryd.prog.wantsStandIn u) = true := by kernel_rfl
        exact (show Tryd.prog.wantsStandIn t = false by simpa using List.all_eq_true.1 hall t hm)⟩)
    (by kernel_rfl)
end Go.Proofs.YtaiflnccpgcklaaDoor.fnExactShowSchema
namespace Go.Proofs.YtaiflnccpgcklaaDoor
theorem fnExactShowSchemaCard_holds : Rows.FnExactShowSchemaCardSaid := fnExactShowSchema.proved
#print axioms fnExactShowSchemaCard_holds
end Go.Proofs.YtaiflnccpgcklaaDoor
