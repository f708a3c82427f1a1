import Derived.Test.YtjkkokjojaknkaaDoorWItem7
import Derived.LaidEql
import Derived.Stop.Asserts
import Derived.RowKitTokens
import Derived.Laws.Tables
import Derived.Test.YtjkkokjojaknkaaDoorRRg
import Derived.Test.YtjkkokjojaknkaaDoorRR16n
namespace Go.Proofs.YtjkkokjojaknkaaDoor
open Go.RowKit Go.Extern.Stop Go.Stop Go.Extern

/-- errors.As of no error. -/
theorem as_nil (t : Value) (w : World) :
    Calls Tryd.prog 41 #[.nilIface, t] w fun e w' => e = .returned (.bool false) ∧ w = w' := by
  go_enter Tryd.func41, Tryd.ntmps41
  go_wp2
  go_ret
  exact ⟨rfl, rfl⟩

/-! The model's entries for internal/reflectlite, at this program's types. -/
theorem Tryd.valueOfP (t : Addr) (w : World) : (ReflectliteValue.unpack (.iface 63 (.pointer (some t)))).run Tryd.prog w
    = .ok (.agg #[.pointer (some ⟨1, 63, none⟩), .pointer (some ⟨w.heap.size, 0, none⟩), .int .u64 150]) (w.alloc (.cells #[.pointer (some t)] 63)) := by kernel_rfl
theorem Tryd.typeP (a : Addr) (w : World) : (ReflectliteValue.methodAny (ReflectliteValue.valueError "reflectlite.Value.Type" 0) (fun t _ _ _ => ReflectliteType.toType t) #[.agg #[.pointer (some ⟨1, 63, none⟩), .pointer (some a), .int .u64 150]]).run Tryd.prog w
    = .ok (.iface 121 (.agg #[.pointer (some ⟨1, 63, none⟩)])) w := by kernel_rfl
theorem Tryd.methodKind (h : Value) (w : World) : (Go.method 101 121 (.agg #[h]) "Kind").run Tryd.prog w = .ok (100, h) w := by kernel_rfl
theorem Tryd.kindP (w : World) : ((ReflectliteType.abiMethod fun t => (fun a : Nat => Value.int IntKind.u8 (a : Int)) <$> Rtype.kind t) #[.pointer (some ⟨1, 63, none⟩)]).run Tryd.prog w = .ok (.int .u8 22) w := by kernel_rfl
theorem Tryd.kindE (w : World) : ((ReflectliteType.abiMethod fun t => (fun a : Nat => Value.int IntKind.u8 (a : Int)) <$> Rtype.kind t) #[.pointer (some ⟨1, 61, none⟩)]).run Tryd.prog w = .ok (.int .u8 25) w := by kernel_rfl
theorem rlm (z : Sem Value) (f : TypeId → Addr → Nat → Nat → Sem Value) (v : Value) :
    ReflectliteValue.method z f #[v] = (do match ← ReflectliteValue.parts v with | none => z | some (t, a, fl) => f t a fl (fl % 32)) := rfl
theorem Tryd.partsP (a : Addr) (w : World) : (ReflectliteValue.parts (.agg #[.pointer (some ⟨1, 63, none⟩), .pointer (some a), .int .u64 150])).run Tryd.prog w = .ok (some (63, a, 150)) w := by kernel_rfl
theorem Tryd.isNilP (a p : Addr) (W : World) (ha : W.cell? a = some (.pointer (some p))) :
    (ReflectliteValue.method (ReflectliteValue.valueError "reflectlite.Value.IsNil" 0) ReflectliteValue.isNil #[.agg #[.pointer (some ⟨1, 63, none⟩), .pointer (some a), .int .u64 150]]).run Tryd.prog W = .ok (.bool false) W := by
  rw [rlm]
  simp only [Sem.run_bind, Tryd.partsP, Result.andThen]
  simp [ReflectliteValue.isNil, loadVar, isAgg, underlying, Tryd.underlying63, ha, Result.andThen]

theorem Tryd.methodElem (h : Value) (w : World) : (Go.method 101 121 (.agg #[h]) "Elem").run Tryd.prog w = .ok (110, .agg #[h]) w := by kernel_rfl
theorem Tryd.methodImplements (h : Value) (w : World) : (Go.method 101 121 (.agg #[h]) "Implements").run Tryd.prog w = .ok (111, .agg #[h]) w := by kernel_rfl
theorem Tryd.methodAssignableTo (h : Value) (w : World) : (Go.method 101 121 (.agg #[h]) "AssignableTo").run Tryd.prog w = .ok (108, .agg #[h]) w := by kernel_rfl
theorem Tryd.elemP (w : World) : (ReflectliteType.method ReflectliteType.elem #[.agg #[.pointer (some ⟨1, 63, none⟩)]]).run Tryd.prog w = .ok (.iface 121 (.agg #[.pointer (some ⟨1, 61, none⟩)])) w := by kernel_rfl
theorem Tryd.implementsE (w : World) : (ReflectliteType.relation "Implements" ReflectliteType.implements_ #[.agg #[.pointer (some ⟨1, 61, none⟩)], .iface 121 (.agg #[.pointer (some ⟨1, 57, none⟩)])]).run Tryd.prog w = .ok (.bool true) w := by kernel_rfl
theorem Tryd.typeOfE (v : Value) (w : World) : (ReflectliteType.typeOf #[.iface 61 v]).run Tryd.prog w = .ok (.iface 121 (.agg #[.pointer (some ⟨1, 61, none⟩)])) w := by kernel_rfl
theorem Tryd.assignableE (w : World) : (ReflectliteType.relation "AssignableTo" ReflectliteType.assignableTo #[.agg #[.pointer (some ⟨1, 61, none⟩)], .iface 121 (.agg #[.pointer (some ⟨1, 61, none⟩)])]).run Tryd.prog w = .ok (.bool true) w := by kernel_rfl
theorem Tryd.valueOfE (c p : Int) (w : World) : (ReflectliteValue.unpack (.iface 61 (.agg #[.int .i64 c, .int .i64 p]))).run Tryd.prog w
    = .ok (.agg #[.pointer (some ⟨1, 61, none⟩), .pointer (some ⟨w.heap.size, 0, none⟩), .int .u64 153]) (w.alloc (.cells #[.int .i64 c, .int .i64 p] 61)) := by kernel_rfl
theorem Tryd.elemOfP (w : World) : (Rtype.elem? 63).run Tryd.prog w = .ok (some 61) w := by kernel_rfl
theorem Tryd.mkE (p : Addr) (w : World) : (ReflectliteValue.mk 61 p ReflectliteValue.flagAddr).run Tryd.prog w = .ok (.agg #[.pointer (some ⟨1, 61, none⟩), .pointer (some p), .int .u64 409]) w := by kernel_rfl
theorem Tryd.elemVP (a p : Addr) (W : World) (ha : W.cell? a = some (.pointer (some p))) :
    (ReflectliteValue.method (ReflectliteValue.valueError "reflectlite.Value.Elem" 0) ReflectliteValue.elem #[.agg #[.pointer (some ⟨1, 63, none⟩), .pointer (some a), .int .u64 150]]).run Tryd.prog W
      = .ok (.agg #[.pointer (some ⟨1, 61, none⟩), .pointer (some p), .int .u64 409]) W := by
  rw [rlm]
  simp only [Sem.run_bind, Tryd.partsP, Result.andThen]
  simp [ReflectliteValue.elem, loadVar, isAgg, underlying, Tryd.underlying63, ha, Result.andThen, Tryd.elemOfP, Tryd.mkE]
theorem rls (v x : Value) : ReflectliteValue.set #[v, x] = (do
    let (some (dst, a, fl), some (src, b, _)) := (← ReflectliteValue.parts v, ← ReflectliteValue.parts x)
      | unsupported (.noEntry "extern/(internal/reflectlite.Value).Set.zeroValue")
    if fl / ReflectliteValue.flagAddr % 2 == 0 then unsupported (.noEntry "extern/(internal/reflectlite.Value).Set.unaddressable")
    let val ← loadVar src b
    if ← Rtype.directlyAssignable dst src then storeVar dst a val
    else if ← Rtype.implements dst src then
      if (← Rtype.kind src) == 20 then
        match val with
        | .nilIface => unsupported (.noEntry "extern/reflectlite: a nil value of one interface type handed on as a value of another")
        | _ => storeVar dst a val
      else storeVar dst a (.iface src val)
    else panicString ("reflectlite.Set: value of type " ++ (← Rtype.spelt src) ++ " is not assignable to type " ++ (← Rtype.spelt dst))
    pure (.tuple #[])) := rfl
theorem Tryd.partsEa (a : Addr) (w : World) : (ReflectliteValue.parts (.agg #[.pointer (some ⟨1, 61, none⟩), .pointer (some a), .int .u64 409])).run Tryd.prog w = .ok (some (61, a, 409)) w := by kernel_rfl
theorem Tryd.partsE (a : Addr) (w : World) : (ReflectliteValue.parts (.agg #[.pointer (some ⟨1, 61, none⟩), .pointer (some a), .int .u64 153])).run Tryd.prog w = .ok (some (61, a, 153)) w := by kernel_rfl
theorem Tryd.directE (w : World) : (Rtype.directlyAssignable 61 61).run Tryd.prog w = .ok true w := by kernel_rfl
theorem Tryd.infoFault : (Tryd.prog.info? 61).map (·.size) = some 2 := by kernel_rfl
theorem Tryd.setE (g b : Nat) (c p : Int) (o1 o2 : Value) (W : World) (hb : W.heap[b]? = some (.cells #[.int .i64 c, .int .i64 p] 61 (0, 0))) (hg : W.heap[g]? = some (.cells #[o1, o2] 61 (0, 0))) :
    (ReflectliteValue.set #[.agg #[.pointer (some ⟨1, 61, none⟩), .pointer (some ⟨g, 0, none⟩), .int .u64 409], .agg #[.pointer (some ⟨1, 61, none⟩), .pointer (some ⟨b, 0, none⟩), .int .u64 153]]).run Tryd.prog W
      = .ok (.tuple #[]) (W.setRow g #[.int .i64 c, .int .i64 p]) := by
  rw [rls]
  simp only [Sem.run_bind, Tryd.partsEa, Tryd.partsE, Result.andThen]
  simp [ReflectliteValue.flagAddr, Result.andThen, Tryd.directE]
  rw [run_loadVar_row W b 61 61 _ (0, 0) _ hb Tryd.underlying61 rfl Tryd.infoFault]
  simp only []
  rw [run_storeVar_row W g 61 61 #[o1, o2] #[.int .i64 c, .int .i64 p] hg Tryd.infoFault rfl (by simp [Value.oneCell'])]

theorem touch_setRow (w : World) (g : Nat) (cs : Array Value) : Touch g (g + 1) w (w.setRow g cs) :=
  ⟨rfl, rfl, rfl, by simp [World.setRow], fun k _ hk => by simp only [World.setRow]; rw [Array.getElem?_modify]; simp [show ¬ g = k by omega]⟩

/-- The variable of package errors that this program's row lists. -/
def ErrT (w : World) : Prop := 0 < w.heap.size ∧ w.cell? ⟨0, 0, none⟩ = some (.iface 121 (.agg #[.pointer (some ⟨1, 57, none⟩)]))
theorem ErrT.kept {w w' : World} (h : ErrT w) (hb : Below w.heap.size w w') : ErrT w' := ⟨Nat.lt_of_lt_of_le h.1 hb.size, (hb.cell (p := ⟨0, 0, none⟩) h.1).trans h.2⟩
theorem ErrT.below {B : Nat} {w w' : World} (h : ErrT w) (hB : 0 < B) (hb : Below B w w') : ErrT w' := ⟨Nat.lt_of_lt_of_le h.1 hb.size, (hb.cell (p := ⟨0, 0, none⟩) hB).trans h.2⟩

set_option maxRecDepth 10000 in
set_option maxHeartbeats 4000000 in
theorem as_hit (c p : Int) (g : Nat) (o1 o2 : Value) (w : World) (hE : ErrT w) (hg : w.heap[g]? = some (.cells #[o1, o2] 61 (0, 0))) :
    Calls Tryd.prog 41 #[.iface 61 (.agg #[.int .i64 c, .int .i64 p]), .iface 63 (.pointer (some ⟨g, 0, none⟩))] w fun ev w' => ev = .returned (.bool true) ∧ w'.heap[g]? = some (.cells #[.int .i64 c, .int .i64 p] 61 (0, 0)) ∧ Touch g (g + 1) w w' := by
  have h6 := @run_callFunc_extern Tryd.prog 65 _ (fun args => ReflectliteValue.unpack (args.getD 0 (.tuple #[]))) Tryd.func65 (by kernel_rfl) (by kernel_rfl) (by kernel_rfl) (by kernel_rfl)
  have h7 := @run_callFunc_extern Tryd.prog 66 _ (ReflectliteValue.methodAny (ReflectliteValue.valueError "reflectlite.Value.Type" 0) (fun t _ _ _ => ReflectliteType.toType t)) Tryd.func66 (by kernel_rfl) (by kernel_rfl) (by kernel_rfl) (by kernel_rfl)
  have h8 := @run_callFunc_extern Tryd.prog 67 _ (ReflectliteValue.method (ReflectliteValue.valueError "reflectlite.Value.IsNil" 0) ReflectliteValue.isNil) Tryd.func67 (by kernel_rfl) (by kernel_rfl) (by kernel_rfl) (by kernel_rfl)
  have h27 := @run_callFunc_extern Tryd.prog 100 _ (ReflectliteType.abiMethod fun t => do pure (.int .u8 (← Rtype.kind t))) Tryd.func100 (by kernel_rfl) (by kernel_rfl) (by kernel_rfl) (by kernel_rfl)
  have h37 := @run_callFunc_extern Tryd.prog 110 _ (ReflectliteType.method ReflectliteType.elem) Tryd.func110 (by kernel_rfl) (by kernel_rfl) (by kernel_rfl) (by kernel_rfl)
  have h38 := @run_callFunc_extern Tryd.prog 111 _ (ReflectliteType.relation "Implements" ReflectliteType.implements_) Tryd.func111 (by kernel_rfl) (by kernel_rfl) (by kernel_rfl) (by kernel_rfl)
  have h10 := @run_callFunc_extern Tryd.prog 81 _ ReflectliteType.typeOf Tryd.func81 (by kernel_rfl) (by kernel_rfl) (by kernel_rfl) (by kernel_rfl)
  have h35 := @run_callFunc_extern Tryd.prog 108 _ (ReflectliteType.relation "AssignableTo" ReflectliteType.assignableTo) Tryd.func108 (by kernel_rfl) (by kernel_rfl) (by kernel_rfl) (by kernel_rfl)
  have h11 := @run_callFunc_extern Tryd.prog 82 _ (ReflectliteValue.method (ReflectliteValue.valueError "reflectlite.Value.Elem" 0) ReflectliteValue.elem) Tryd.func82 (by kernel_rfl) (by kernel_rfl) (by kernel_rfl) (by kernel_rfl)
  have h12 := @run_callFunc_extern Tryd.prog 83 _ ReflectliteValue.set Tryd.func83 (by kernel_rfl) (by kernel_rfl) (by kernel_rfl) (by kernel_rfl)
  have tO := Tryd.typeOfE
  have mA := Tryd.methodAssignableTo
  have a25 := Tryd.assignableE
  have v25 := Tryd.valueOfE c p
  have f6 := Tryd.valueOfP
  have f7 := Tryd.typeP
  have mK := Tryd.methodKind
  have mE := Tryd.methodElem
  have mI := Tryd.methodImplements
  have k27 := Tryd.kindP
  have k25 := Tryd.kindE
  have e27 := Tryd.elemP
  have i25 := Tryd.implementsE
  have hgl : g < w.heap.size := (Array.getElem?_eq_some_iff.1 hg).1
  obtain ⟨hlt, hg0⟩ := hE
  have n8 := Tryd.isNilP ⟨w.heap.size, 0, none⟩ ⟨g, 0, none⟩ ((w.alloc (.cells #[.pointer (some ⟨g, 0, none⟩)] 63)).alloc (.cells #[.pointer (some ⟨1, 63, none⟩), .pointer (some ⟨w.heap.size, 0, none⟩), .int .u64 150] 98)) (by simp)
  have hg2 : ((w.alloc (.cells #[.pointer (some ⟨g, 0, none⟩)] 63)).alloc (.cells #[.pointer (some ⟨1, 63, none⟩), .pointer (some ⟨w.heap.size, 0, none⟩), .int .u64 150] 98)).cell? ⟨0, 0, none⟩ = some (.iface 121 (.agg #[.pointer (some ⟨1, 57, none⟩)])) := by
    rw [World.cell?_alloc_lt _ _ ⟨0, 0, none⟩ (by simp), World.cell?_alloc_lt _ _ ⟨0, 0, none⟩ hlt]; exact hg0
  have el := Tryd.elemVP ⟨w.heap.size, 0, none⟩ ⟨g, 0, none⟩ (((w.alloc (.cells #[.pointer (some ⟨g, 0, none⟩)] 63)).alloc (.cells #[.pointer (some ⟨1, 63, none⟩), .pointer (some ⟨w.heap.size, 0, none⟩), .int .u64 150] 98)).alloc (.cells #[.pointer (some ⟨1, 63, none⟩), .pointer (some ⟨w.heap.size, 0, none⟩), .int .u64 150] 98)) (by rw [World.cell?_alloc_lt _ _ ⟨w.heap.size, 0, none⟩ (by simp; omega)]; simp)
  have B3 : Below w.heap.size w (((w.alloc (.cells #[.pointer (some ⟨g, 0, none⟩)] 63)).alloc (.cells #[.pointer (some ⟨1, 63, none⟩), .pointer (some ⟨w.heap.size, 0, none⟩), .int .u64 150] 98)).alloc (.cells #[.pointer (some ⟨1, 63, none⟩), .pointer (some ⟨w.heap.size, 0, none⟩), .int .u64 150] 98)) := (((Below.refl _ _).alloc (Nat.le_refl _) _).alloc (by simp) _).alloc (by simp; omega) _
  have B4 : Below w.heap.size w ((((w.alloc (.cells #[.pointer (some ⟨g, 0, none⟩)] 63)).alloc (.cells #[.pointer (some ⟨1, 63, none⟩), .pointer (some ⟨w.heap.size, 0, none⟩), .int .u64 150] 98)).alloc (.cells #[.pointer (some ⟨1, 63, none⟩), .pointer (some ⟨w.heap.size, 0, none⟩), .int .u64 150] 98)).alloc (.cells #[.int .i64 c, .int .i64 p] 61)) := B3.alloc (by simp; omega) _
  have st := Tryd.setE g (w.heap.size + 1 + 1 + 1) c p o1 o2 ((((w.alloc (.cells #[.pointer (some ⟨g, 0, none⟩)] 63)).alloc (.cells #[.pointer (some ⟨1, 63, none⟩), .pointer (some ⟨w.heap.size, 0, none⟩), .int .u64 150] 98)).alloc (.cells #[.pointer (some ⟨1, 63, none⟩), .pointer (some ⟨w.heap.size, 0, none⟩), .int .u64 150] 98)).alloc (.cells #[.int .i64 c, .int .i64 p] 61))
    (by rw [show w.heap.size + 1 + 1 + 1 = (((w.alloc (.cells #[.pointer (some ⟨g, 0, none⟩)] 63)).alloc (.cells #[.pointer (some ⟨1, 63, none⟩), .pointer (some ⟨w.heap.size, 0, none⟩), .int .u64 150] 98)).alloc (.cells #[.pointer (some ⟨1, 63, none⟩), .pointer (some ⟨w.heap.size, 0, none⟩), .int .u64 150] 98)).heap.size by simp]; exact heap_alloc_new _ _)
    ((B4.block g hgl).trans hg)
  have G4 := (B4.block g hgl).trans hg
  have R4 := setRow_heap _ g _ #[.int .i64 c, .int .i64 p] 61 (0, 0) G4
  have T4 := (Touch.of_below (lo := g) (hi := g + 1) B4).trans (touch_setRow _ g #[.int .i64 c, .int .i64 p])
  clear B3 B4 G4 hg
  go_enter Tryd.func41, Tryd.ntmps41
  go_wp2
  refine wp_loop_rounds 1 ?_
  rw [rounds_succ]
  go_wp2
  go_ret
  exact ⟨rfl, R4, T4⟩

end Go.Proofs.YtjkkokjojaknkaaDoor

namespace Go.Proofs.YtjkkokjojaknkaaDoor
open Go.RowKit

theorem results_item3 {fn : Func} {t u v : Tmp} (h : fn.results = #[.cell t 26, .tmp u, .tmp v]) (tmps : Array Value) (g : Nat) (ht : tmps.getD t undef = .pointer (some ⟨g, 0, none⟩)) (w : World) (c0 c1 c2 c3 c4 : Value)
    (hb : w.heap[g]? = some (.cells #[c0, c1, c2, c3, c4] 26 (0, 0))) : (results fn tmps).run Tryd.prog w = .ok (.tuple #[.agg #[c0, c1, c2, c3, c4], tmps.getD u undef, tmps.getD v undef]) w := by
  have d0 : w.cell? ⟨g, 0, none⟩ = some c0 := (cell_of_row _ g 0 _ 26 (0, 0) hb).trans rfl
  have d1 : w.cell? ⟨g, 1, none⟩ = some c1 := (cell_of_row _ g 1 _ 26 (0, 0) hb).trans rfl
  have d2 : w.cell? ⟨g, 2, none⟩ = some c2 := (cell_of_row _ g 2 _ 26 (0, 0) hb).trans rfl
  have d3 : w.cell? ⟨g, 3, none⟩ = some c3 := (cell_of_row _ g 3 _ 26 (0, 0) hb).trans rfl
  have d4 : w.cell? ⟨g, 4, none⟩ = some c4 := (cell_of_row _ g 4 _ 26 (0, 0) hb).trans rfl
  clear hb
  have ht' : tmps[t]?.getD undef = .pointer (some ⟨g, 0, none⟩) := by rw [← ht]; simp
  simp [results, h, go_sem, ht', d0, d1, d2, d3, d4]

theorem OwnKids.wide {d lo hi hi' : Nat} {w : World} {a : Option Addr} {n : Nat} {xs : List It} (h : OwnKids d lo hi w a n xs) (hh : hi ≤ hi') : OwnKids d lo hi' w a n xs := by
  cases d with
  | zero => exact h
  | succ d =>
    refine ⟨h.1, h.2.1, ?_⟩
    rcases h.2.2 with h0 | ⟨g, cap, vs, rfl, g1, g2, hr, hp⟩
    · exact .inl h0
    · exact .inr ⟨g, cap, vs, rfl, g1, by omega, hr, hp.wide hh⟩

/-- What ReadItem answers. -/
def RiPost (R : Rs It) (w : World) (ev : Ending) (w' : World) : Prop := Below w.heap.size w w' ∧ match R with
  | .ok x _ => ∃ ab nb cb ak nk ck M, ev = .returned (.tuple #[itv x ab nb cb ak nk ck, .int .i64 0, .int .i64 0]) ∧ w.heap.size ≤ M ∧ M ≤ w'.heap.size ∧ OwnB w.heap.size M w' ab nb cb x.body ∧ OwnKids 12 M w'.heap.size w' ak nk x.kids
  | .no c p => ev = .returned (.tuple #[itv zeroIt none 0 0 none 0 0, .int .i64 (c : Int), .int .i64 (p : Int)])

set_option maxRecDepth 10000 in
set_option maxHeartbeats 4000000 in
theorem implReadItem_any (a : Option Addr) (n cap : Nat) (lax : Bool) (bs : List Int) (w : World) (hE : ErrT w) (h : Row w a n bs) (hcap : n ≤ cap) (hn63 : n ≤ 9223372036854775807) :
    Calls Tryd.prog 14 #[.slice a n cap, .bool lax] w fun ev w' => RiPost (readR lax bs) w ev w' := by
  have HR : Hid (Row w a n bs) := h
  have HE : Hid (ErrT w) := hE
  have hw0 : 0 < w.heap.size := hE.1
  clear h hE
  have hB0 : Below w.heap.size w (w.alloc (.cells #[.int .i64 0, .int .i64 0, .bool false, .slice none 0 0, .slice none 0 0] 26)) := (Below.refl _ _).alloc (Nat.le_refl _) _
  have b0 := heap_alloc_new w (.cells #[.int .i64 0, .int .i64 0, .bool false, .slice none 0 0, .slice none 0 0] 26)
  have hS0 : (w.alloc (.cells #[.int .i64 0, .int .i64 0, .bool false, .slice none 0 0, .slice none 0 0] 26)).heap.size = w.heap.size + 1 := by simp
  go_enter Tryd.func14, Tryd.ntmps14
  go_upto_region 1 with fail
  obtain ⟨W0, hW0⟩ : ∃ W0, W0 = w.alloc (.cells #[.int .i64 0, .int .i64 0, .bool false, .slice none 0 0, .slice none 0 0] 26) := ⟨_, rfl⟩
  rw [← hW0] at b0 hB0 hS0 ⊢
  clear hW0
  have HC := readWhole_any a n cap lax bs W0 (HR.out.kept hB0) hcap hn63
  cases hrd : readR lax bs with
  | no c p =>
    rw [hrd] at HC
    have hf : Hid (readR lax bs = .no c p) := hrd
    clear hrd
    go_upto_region 3 with (go_at_call 40; refine HC.mono ?_; rintro ev w3 ⟨hb3, hh⟩; obtain rfl : ev = .returned (.tuple #[.agg #[.int .i64 0, .int .i64 0, .bool false, .slice none 0 0, .slice none 0 0], .iface 61 (.agg #[.int .i64 (c : Int), .int .i64 (p : Int)])]) := hh)
    have hs3 := hb3.size
    obtain ⟨r1, r2⟩ := two_blocks w3 (.cells #[.int .i64 0, .int .i64 0, .bool false, .slice none 0 0, .slice none 0 0] 26) (.cells #[.int .i64 0, .int .i64 0] 61)
    have hal : Below w3.heap.size w3 ((w3.alloc (.cells #[.int .i64 0, .int .i64 0, .bool false, .slice none 0 0, .slice none 0 0] 26)).alloc (.cells #[.int .i64 0, .int .i64 0] 61)) := ((Below.refl _ _).alloc (Nat.le_refl _) _).alloc (by simp) _
    have hS3 : ((w3.alloc (.cells #[.int .i64 0, .int .i64 0, .bool false, .slice none 0 0, .slice none 0 0] 26)).alloc (.cells #[.int .i64 0, .int .i64 0] 61)).heap.size = w3.heap.size + 2 := by simp
    obtain ⟨W3, hW3⟩ : ∃ W3, W3 = ((w3.alloc (.cells #[.int .i64 0, .int .i64 0, .bool false, .slice none 0 0, .slice none 0 0] 26)).alloc (.cells #[.int .i64 0, .int .i64 0] 61)) := ⟨_, rfl⟩
    rw [← hW3] at r1 r2 hal hS3 ⊢
    clear hW3
    have hB3 : Below w.heap.size w W3 := (hB0.trans (hb3.mono (by omega))).trans (hal.mono (by omega))
    have r0 := heap_kept hal (by omega) (heap_kept hb3 (by omega) b0)
    have HA := as_hit c p (w3.heap.size + 1) _ _ W3 (HE.out.below hw0 hB3) r2
    go_upto_region 4 with (go_at_call 41; refine HA.mono ?_; rintro ev w4 ⟨rfl, rF, t4⟩)
    have hs4 := t4.size
    have r04 : w4.heap[w.heap.size]? = _ := (t4.block _ (by omega) (by omega)).trans r0
    have hB4 : Below w.heap.size w w4 := hB3.trans (t4.below (by omega) (by omega))
    clear HA HC r0 r1 r2 t4 hal hb3 b0 hB0 hB3
    have zc0 : w4.cell? ⟨w.heap.size, 0, none⟩ = some (.int .i64 0) := (cell_of_row _ (w.heap.size) 0 _ 26 (0, 0) r04).trans rfl
    have zf0 : w4.frozen? ⟨w.heap.size, 0, none⟩ = false := frozen_of_row w4 (w.heap.size) 0 _ 26 r04
    have zc1 : w4.cell? ⟨w.heap.size, 1, none⟩ = some (.int .i64 0) := (cell_of_row _ (w.heap.size) 1 _ 26 (0, 0) r04).trans rfl
    have zf1 : w4.frozen? ⟨w.heap.size, 1, none⟩ = false := frozen_of_row w4 (w.heap.size) 1 _ 26 r04
    have zc2 : w4.cell? ⟨w.heap.size, 2, none⟩ = some (.bool false) := (cell_of_row _ (w.heap.size) 2 _ 26 (0, 0) r04).trans rfl
    have zf2 : w4.frozen? ⟨w.heap.size, 2, none⟩ = false := frozen_of_row w4 (w.heap.size) 2 _ 26 r04
    have zc3 : w4.cell? ⟨w.heap.size, 3, none⟩ = some (.slice none 0 0) := (cell_of_row _ (w.heap.size) 3 _ 26 (0, 0) r04).trans rfl
    have zf3 : w4.frozen? ⟨w.heap.size, 3, none⟩ = false := frozen_of_row w4 (w.heap.size) 3 _ 26 r04
    have zc4 : w4.cell? ⟨w.heap.size, 4, none⟩ = some (.slice none 0 0) := (cell_of_row _ (w.heap.size) 4 _ 26 (0, 0) r04).trans rfl
    have zf4 : w4.frozen? ⟨w.heap.size, 4, none⟩ = false := frozen_of_row w4 (w.heap.size) 4 _ 26 r04
    have g0 : w4.cell? ⟨w3.heap.size + 1, 0, none⟩ = some (.int .i64 (c : Int)) := (cell_of_row _ (w3.heap.size + 1) 0 _ 61 (0, 0) rF).trans rfl
    have g1 : w4.cell? ⟨w3.heap.size + 1, 1, none⟩ = some (.int .i64 (p : Int)) := (cell_of_row _ (w3.heap.size + 1) 1 _ 61 (0, 0) rF).trans rfl
    have hne : ¬ w3.heap.size + 1 = w.heap.size := by omega
    have R04 : Hid (_ = _) := r04
    clear rF r04
    go_region
    go_wp2
    have q0 := heap_setCell_same (w4) w.heap.size 0 _ 26 (.int .i64 0) R04.out
    have q1 := heap_setCell_same ((w4).setCell ⟨w.heap.size, 0, none⟩ (.int .i64 0)) w.heap.size 1 _ 26 (.int .i64 0) q0
    have q2 := heap_setCell_same (((w4).setCell ⟨w.heap.size, 0, none⟩ (.int .i64 0)).setCell ⟨w.heap.size, 1, none⟩ (.int .i64 0)) w.heap.size 2 _ 26 (.bool false) q1
    have q3 := heap_setCell_same ((((w4).setCell ⟨w.heap.size, 0, none⟩ (.int .i64 0)).setCell ⟨w.heap.size, 1, none⟩ (.int .i64 0)).setCell ⟨w.heap.size, 2, none⟩ (.bool false)) w.heap.size 3 _ 26 (.slice none 0 0) q2
    have q4 := heap_setCell_same (((((w4).setCell ⟨w.heap.size, 0, none⟩ (.int .i64 0)).setCell ⟨w.heap.size, 1, none⟩ (.int .i64 0)).setCell ⟨w.heap.size, 2, none⟩ (.bool false)).setCell ⟨w.heap.size, 3, none⟩ (.slice none 0 0)) w.heap.size 4 _ 26 (.slice none 0 0) q3
    have tt : Touch w.heap.size (w.heap.size + 1) w4 ((((((w4).setCell ⟨w.heap.size, 0, none⟩ (.int .i64 0)).setCell ⟨w.heap.size, 1, none⟩ (.int .i64 0)).setCell ⟨w.heap.size, 2, none⟩ (.bool false)).setCell ⟨w.heap.size, 3, none⟩ (.slice none 0 0)).setCell ⟨w.heap.size, 4, none⟩ (.slice none 0 0)) := ((((touch_set _ _ _ _ (by omega) (by omega)).trans (touch_set _ _ _ _ (by omega) (by omega))).trans (touch_set _ _ _ _ (by omega) (by omega))).trans (touch_set _ _ _ _ (by omega) (by omega))).trans (touch_set _ _ _ _ (by omega) (by omega))
    have tse : ((((((w4).setCell ⟨w.heap.size, 0, none⟩ (.int .i64 0)).setCell ⟨w.heap.size, 1, none⟩ (.int .i64 0)).setCell ⟨w.heap.size, 2, none⟩ (.bool false)).setCell ⟨w.heap.size, 3, none⟩ (.slice none 0 0)).setCell ⟨w.heap.size, 4, none⟩ (.slice none 0 0)).heap.size = w4.heap.size := by simp
    try simp only [Exit.inBlock, Exit.then]
    refine bodyPost_ret (results_item3 rfl _ w.heap.size rfl _ _ _ _ _ _ q4) rfl ?_
    refine ⟨hB4.trans (tt.below (Nat.le_refl _) (by omega)).drew, ?_⟩
    rw [hf.out]
    rfl
  | ok x nx =>
    rw [hrd] at HC
    have hf : Hid (readR lax bs = .ok x nx) := hrd
    clear hrd
    go_upto_region 3 with (go_at_call 40; refine HC.mono ?_; rintro ev w3 ⟨hb3, ab, nb, cb, ak, nk, ck, M, rfl, m1, m2, ob, ok⟩; unfold itv)
    have hs3 := hb3.size
    obtain ⟨r1, r2⟩ := two_blocks w3 (.cells #[.int .i64 x.cls, .int .i64 x.tag, .bool x.cons, .slice ab nb cb, .slice ak nk ck] 26) (.cells #[.int .i64 0, .int .i64 0] 61)
    have hal : Below w3.heap.size w3 ((w3.alloc (.cells #[.int .i64 x.cls, .int .i64 x.tag, .bool x.cons, .slice ab nb cb, .slice ak nk ck] 26)).alloc (.cells #[.int .i64 0, .int .i64 0] 61)) := ((Below.refl _ _).alloc (Nat.le_refl _) _).alloc (by simp) _
    have hS3 : ((w3.alloc (.cells #[.int .i64 x.cls, .int .i64 x.tag, .bool x.cons, .slice ab nb cb, .slice ak nk ck] 26)).alloc (.cells #[.int .i64 0, .int .i64 0] 61)).heap.size = w3.heap.size + 2 := by simp
    obtain ⟨W3, hW3⟩ : ∃ W3, W3 = ((w3.alloc (.cells #[.int .i64 x.cls, .int .i64 x.tag, .bool x.cons, .slice ab nb cb, .slice ak nk ck] 26)).alloc (.cells #[.int .i64 0, .int .i64 0] 61)) := ⟨_, rfl⟩
    rw [← hW3] at r1 r2 hal hS3 ⊢
    clear hW3
    have hB3 : Below w.heap.size w W3 := (hB0.trans (hb3.mono (by omega))).trans (hal.mono (by omega))
    have r0 := heap_kept hal (by omega) (heap_kept hb3 (by omega) b0)
    have HOB : Hid (OwnB W0.heap.size M W3 ab nb cb x.body) := ob.kept hal
    have HOK : Hid (OwnKids 12 M w3.heap.size W3 ak nk x.kids) := ok.kept hal
    have zc0 : W3.cell? ⟨w.heap.size, 0, none⟩ = some (.int .i64 0) := (cell_of_row _ (w.heap.size) 0 _ 26 (0, 0) r0).trans rfl
    have zf0 : W3.frozen? ⟨w.heap.size, 0, none⟩ = false := frozen_of_row W3 (w.heap.size) 0 _ 26 r0
    have zc1 : W3.cell? ⟨w.heap.size, 1, none⟩ = some (.int .i64 0) := (cell_of_row _ (w.heap.size) 1 _ 26 (0, 0) r0).trans rfl
    have zf1 : W3.frozen? ⟨w.heap.size, 1, none⟩ = false := frozen_of_row W3 (w.heap.size) 1 _ 26 r0
    have zc2 : W3.cell? ⟨w.heap.size, 2, none⟩ = some (.bool false) := (cell_of_row _ (w.heap.size) 2 _ 26 (0, 0) r0).trans rfl
    have zf2 : W3.frozen? ⟨w.heap.size, 2, none⟩ = false := frozen_of_row W3 (w.heap.size) 2 _ 26 r0
    have zc3 : W3.cell? ⟨w.heap.size, 3, none⟩ = some (.slice none 0 0) := (cell_of_row _ (w.heap.size) 3 _ 26 (0, 0) r0).trans rfl
    have zf3 : W3.frozen? ⟨w.heap.size, 3, none⟩ = false := frozen_of_row W3 (w.heap.size) 3 _ 26 r0
    have zc4 : W3.cell? ⟨w.heap.size, 4, none⟩ = some (.slice none 0 0) := (cell_of_row _ (w.heap.size) 4 _ 26 (0, 0) r0).trans rfl
    have zf4 : W3.frozen? ⟨w.heap.size, 4, none⟩ = false := frozen_of_row W3 (w.heap.size) 4 _ 26 r0
    have kc0 : W3.cell? ⟨w3.heap.size, 0, none⟩ = some (.int .i64 x.cls) := (cell_of_row _ (w3.heap.size) 0 _ 26 (0, 0) r1).trans rfl
    have kc1 : W3.cell? ⟨w3.heap.size, 1, none⟩ = some (.int .i64 x.tag) := (cell_of_row _ (w3.heap.size) 1 _ 26 (0, 0) r1).trans rfl
    have kc2 : W3.cell? ⟨w3.heap.size, 2, none⟩ = some (.bool x.cons) := (cell_of_row _ (w3.heap.size) 2 _ 26 (0, 0) r1).trans rfl
    have kc3 : W3.cell? ⟨w3.heap.size, 3, none⟩ = some (.slice ab nb cb) := (cell_of_row _ (w3.heap.size) 3 _ 26 (0, 0) r1).trans rfl
    have kc4 : W3.cell? ⟨w3.heap.size, 4, none⟩ = some (.slice ak nk ck) := (cell_of_row _ (w3.heap.size) 4 _ 26 (0, 0) r1).trans rfl
    have R0 : Hid (_ = _) := r0
    have HB3 : Hid (_) := hB3
    clear r0 r1 r2 hal hb3 b0 hB0 hB3 ob ok HC
    go_wp2_with (go_at_call 41; refine (as_nil _ _).mono ?_; rintro ev w4 ⟨rfl, rfl⟩)
    have q0 := heap_setCell_same (W3) w.heap.size 0 _ 26 (.int .i64 x.cls) R0.out
    have q1 := heap_setCell_same ((W3).setCell ⟨w.heap.size, 0, none⟩ (.int .i64 x.cls)) w.heap.size 1 _ 26 (.int .i64 x.tag) q0
    have q2 := heap_setCell_same (((W3).setCell ⟨w.heap.size, 0, none⟩ (.int .i64 x.cls)).setCell ⟨w.heap.size, 1, none⟩ (.int .i64 x.tag)) w.heap.size 2 _ 26 (.bool x.cons) q1
    have q3 := heap_setCell_same ((((W3).setCell ⟨w.heap.size, 0, none⟩ (.int .i64 x.cls)).setCell ⟨w.heap.size, 1, none⟩ (.int .i64 x.tag)).setCell ⟨w.heap.size, 2, none⟩ (.bool x.cons)) w.heap.size 3 _ 26 (.slice ab nb cb) q2
    have q4 := heap_setCell_same (((((W3).setCell ⟨w.heap.size, 0, none⟩ (.int .i64 x.cls)).setCell ⟨w.heap.size, 1, none⟩ (.int .i64 x.tag)).setCell ⟨w.heap.size, 2, none⟩ (.bool x.cons)).setCell ⟨w.heap.size, 3, none⟩ (.slice ab nb cb)) w.heap.size 4 _ 26 (.slice ak nk ck) q3
    have tt : Touch w.heap.size (w.heap.size + 1) W3 ((((((W3).setCell ⟨w.heap.size, 0, none⟩ (.int .i64 x.cls)).setCell ⟨w.heap.size, 1, none⟩ (.int .i64 x.tag)).setCell ⟨w.heap.size, 2, none⟩ (.bool x.cons)).setCell ⟨w.heap.size, 3, none⟩ (.slice ab nb cb)).setCell ⟨w.heap.size, 4, none⟩ (.slice ak nk ck)) := ((((touch_set _ _ _ _ (by omega) (by omega)).trans (touch_set _ _ _ _ (by omega) (by omega))).trans (touch_set _ _ _ _ (by omega) (by omega))).trans (touch_set _ _ _ _ (by omega) (by omega))).trans (touch_set _ _ _ _ (by omega) (by omega))
    have tse : ((((((W3).setCell ⟨w.heap.size, 0, none⟩ (.int .i64 x.cls)).setCell ⟨w.heap.size, 1, none⟩ (.int .i64 x.tag)).setCell ⟨w.heap.size, 2, none⟩ (.bool x.cons)).setCell ⟨w.heap.size, 3, none⟩ (.slice ab nb cb)).setCell ⟨w.heap.size, 4, none⟩ (.slice ak nk ck)).heap.size = W3.heap.size := by simp
    try simp only [Exit.inBlock, Exit.then]
    refine bodyPost_ret (results_item3 rfl _ w.heap.size rfl _ _ _ _ _ _ q4) rfl ?_
    refine ⟨HB3.out.trans (tt.below (Nat.le_refl _) (by omega)), ?_⟩
    rw [hf.out]
    refine ⟨ab, nb, cb, ak, nk, ck, M, rfl, by omega, by omega, (HOB.out.touch (.inr (by omega)) tt).mono (by omega) (Nat.le_refl _), ?_⟩
    rw [tse, hS3]
    exact (ownKids_moves 12 _ _ _ _ _ _ _ _ _ HOK.out (.inr (by omega)) tt).wide (by omega)

end Go.Proofs.YtjkkokjojaknkaaDoor

namespace Go.Proofs.YtjkkokjojaknkaaDoor
open Go.RowKit

theorem sitemC_all (RB : Nat) (lax : Bool) (bs : List Int) (n cap : Nat) (a : Option Addr) (hn : n ≤ 20000) (hcap : n ≤ cap) : ∀ r, r ≤ 12 → SItemC RB lax bs n cap a r := by
  intro r
  induction r with
  | zero => exact fun _ => sitemC_zero RB lax bs n cap a
  | succ r ih => exact fun h => sitemC_next RB lax bs n cap a hn hcap r h (ih (by omega))

set_option maxRecDepth 10000 in
set_option maxHeartbeats 8000000 in
theorem specReadItem_any (a : Option Addr) (n cap : Nat) (lax : Bool) (bs : List Int) (w : World) (h : Row w a n bs) (hcap : n ≤ cap) (hn63 : n ≤ 9223372036854775807) :
    Calls Tryd.prog 21 #[.slice a n cap, .bool lax] w fun ev w' => RiPost (readR lax bs) w ev w' := by
  have HR : Hid (Row w a n bs) := h
  have hlen := h.len
  clear h
  have hB0 : Below w.heap.size w (w.alloc (.cells #[.int .i64 0, .int .i64 0, .bool false, .slice none 0 0, .slice none 0 0] 26)) := (Below.refl _ _).alloc (Nat.le_refl _) _
  have b0 := heap_alloc_new w (.cells #[.int .i64 0, .int .i64 0, .bool false, .slice none 0 0, .slice none 0 0] 26)
  have hS0 : (w.alloc (.cells #[.int .i64 0, .int .i64 0, .bool false, .slice none 0 0, .slice none 0 0] 26)).heap.size = w.heap.size + 1 := by simp
  by_cases hlong : 20000 < n
  · have hf : Hid (readR lax bs = .no 7 0) := readR_long (by omega)
    have hli : (20000 : Int) < (n : Int) := by omega
    go_enter Tryd.func21, Tryd.ntmps21
    go_upto_region 2 with fail
    obtain ⟨W0, hW0⟩ : ∃ W0, W0 = w.alloc (.cells #[.int .i64 0, .int .i64 0, .bool false, .slice none 0 0, .slice none 0 0] 26) := ⟨_, rfl⟩
    rw [← hW0] at b0 hB0 hS0 ⊢
    clear hW0
    have X8 : Hid (_ = _) := b0
    have zc0 : W0.cell? ⟨w.heap.size, 0, none⟩ = some (.int .i64 0) := (cell_of_row _ (w.heap.size) 0 _ 26 (0, 0) b0).trans rfl
    have zf0 : W0.frozen? ⟨w.heap.size, 0, none⟩ = false := frozen_of_row W0 (w.heap.size) 0 _ 26 b0
    have zc1 : W0.cell? ⟨w.heap.size, 1, none⟩ = some (.int .i64 0) := (cell_of_row _ (w.heap.size) 1 _ 26 (0, 0) b0).trans rfl
    have zf1 : W0.frozen? ⟨w.heap.size, 1, none⟩ = false := frozen_of_row W0 (w.heap.size) 1 _ 26 b0
    have zc2 : W0.cell? ⟨w.heap.size, 2, none⟩ = some (.bool false) := (cell_of_row _ (w.heap.size) 2 _ 26 (0, 0) b0).trans rfl
    have zf2 : W0.frozen? ⟨w.heap.size, 2, none⟩ = false := frozen_of_row W0 (w.heap.size) 2 _ 26 b0
    have zc3 : W0.cell? ⟨w.heap.size, 3, none⟩ = some (.slice none 0 0) := (cell_of_row _ (w.heap.size) 3 _ 26 (0, 0) b0).trans rfl
    have zf3 : W0.frozen? ⟨w.heap.size, 3, none⟩ = false := frozen_of_row W0 (w.heap.size) 3 _ 26 b0
    have zc4 : W0.cell? ⟨w.heap.size, 4, none⟩ = some (.slice none 0 0) := (cell_of_row _ (w.heap.size) 4 _ 26 (0, 0) b0).trans rfl
    have zf4 : W0.frozen? ⟨w.heap.size, 4, none⟩ = false := frozen_of_row W0 (w.heap.size) 4 _ 26 b0
    clear b0
    go_wp2
    have q0 := heap_setCell_same (W0) (w.heap.size) 0 _ 26 (.int .i64 0) X8.out
    have q1 := heap_setCell_same ((W0).setCell ⟨w.heap.size, 0, none⟩ (.int .i64 0)) (w.heap.size) 1 _ 26 (.int .i64 0) q0
    have q2 := heap_setCell_same (((W0).setCell ⟨w.heap.size, 0, none⟩ (.int .i64 0)).setCell ⟨w.heap.size, 1, none⟩ (.int .i64 0)) (w.heap.size) 2 _ 26 (.bool false) q1
    have q3 := heap_setCell_same ((((W0).setCell ⟨w.heap.size, 0, none⟩ (.int .i64 0)).setCell ⟨w.heap.size, 1, none⟩ (.int .i64 0)).setCell ⟨w.heap.size, 2, none⟩ (.bool false)) (w.heap.size) 3 _ 26 (.slice none 0 0) q2
    have q4 := heap_setCell_same (((((W0).setCell ⟨w.heap.size, 0, none⟩ (.int .i64 0)).setCell ⟨w.heap.size, 1, none⟩ (.int .i64 0)).setCell ⟨w.heap.size, 2, none⟩ (.bool false)).setCell ⟨w.heap.size, 3, none⟩ (.slice none 0 0)) (w.heap.size) 4 _ 26 (.slice none 0 0) q3
    have tt : Touch (w.heap.size) (w.heap.size + 1) W0 ((((((W0).setCell ⟨w.heap.size, 0, none⟩ (.int .i64 0)).setCell ⟨w.heap.size, 1, none⟩ (.int .i64 0)).setCell ⟨w.heap.size, 2, none⟩ (.bool false)).setCell ⟨w.heap.size, 3, none⟩ (.slice none 0 0)).setCell ⟨w.heap.size, 4, none⟩ (.slice none 0 0)) := ((((touch_set _ _ _ _ (by omega) (by omega)).trans (touch_set _ _ _ _ (by omega) (by omega))).trans (touch_set _ _ _ _ (by omega) (by omega))).trans (touch_set _ _ _ _ (by omega) (by omega))).trans (touch_set _ _ _ _ (by omega) (by omega))
    have tse : ((((((W0).setCell ⟨w.heap.size, 0, none⟩ (.int .i64 0)).setCell ⟨w.heap.size, 1, none⟩ (.int .i64 0)).setCell ⟨w.heap.size, 2, none⟩ (.bool false)).setCell ⟨w.heap.size, 3, none⟩ (.slice none 0 0)).setCell ⟨w.heap.size, 4, none⟩ (.slice none 0 0)).heap.size = W0.heap.size := by simp
    try simp only [Exit.inBlock, Exit.then]
    refine bodyPost_ret (results_item3 rfl _ (w.heap.size) rfl _ _ _ _ _ _ q4) rfl ?_
    refine ⟨hB0.trans (tt.below (Nat.le_refl _) (by omega)), ?_⟩
    rw [hf.out]
    rfl
  have hli : ¬ (20000 : Int) < (n : Int) := by omega
  obtain ⟨b0', b1'⟩ := two_blocks w (.cells #[.int .i64 0, .int .i64 0, .bool false, .slice none 0 0, .slice none 0 0] 26) (.cells #[.slice a n cap, .bool lax, .int .i64 0, .int .i64 0] 68)
  have hB1 : Below w.heap.size w ((w.alloc (.cells #[.int .i64 0, .int .i64 0, .bool false, .slice none 0 0, .slice none 0 0] 26)).alloc (.cells #[.slice a n cap, .bool lax, .int .i64 0, .int .i64 0] 68)) := ((Below.refl _ _).alloc (Nat.le_refl _) _).alloc (by simp) _
  have hS1 : ((w.alloc (.cells #[.int .i64 0, .int .i64 0, .bool false, .slice none 0 0, .slice none 0 0] 26)).alloc (.cells #[.slice a n cap, .bool lax, .int .i64 0, .int .i64 0] 68)).heap.size = w.heap.size + 2 := by simp
  go_enter Tryd.func21, Tryd.ntmps21
  go_upto_region 4 with fail
  obtain ⟨W1, hW1⟩ : ∃ W1, W1 = ((w.alloc (.cells #[.int .i64 0, .int .i64 0, .bool false, .slice none 0 0, .slice none 0 0] 26)).alloc (.cells #[.slice a n cap, .bool lax, .int .i64 0, .int .i64 0] 68)) := ⟨_, rfl⟩
  rw [← hW1] at b0' b1' hB1 hS1 ⊢
  clear hW1 b0 hB0 hS0
  have hin : In a n 0 (w.heap.size + 1) := fun b off hb hn0 => by have := HR.out.in_ b off hb hn0; omega
  have HC := sitemC_all (w.heap.size + 1) lax bs n cap a (by omega) hcap 12 (Nat.le_refl _) 0 n 0 W1 (HR.out.kept hB1) hin b1' (Nat.zero_le _) (Nat.le_refl _)
  cases hit : itemR lax bs 12 0 n with
  | no c p =>
    rw [hit] at HC
    have hf : Hid (readR lax bs = .no c p) := readR_no (by omega) (by rw [hlen]; exact hit)
    have hcode := itemR_code 12 0 n (Nat.zero_le _) hit
    have hne : ((c : Int) != 0) = true := by simp; omega
    have hne2 : ((c : Int) == 0) = false := by simp; omega
    clear hit
    go_upto_region 5 with (go_at_call 44; refine HC.mono ?_; rintro ev w3 ⟨t3, ⟨v, u, rfl, i2, j2, b2, a3, n3, c3, a4, n4, c4, rfl⟩, hbx3⟩)
    have hs3 := t3.size
    have hal : Below w3.heap.size w3 (w3.alloc (.cells #[.int .i64 i2, .int .i64 j2, .bool b2, .slice a3 n3 c3, .slice a4 n4 c4] 26)) := (Below.refl _ _).alloc (Nat.le_refl _) _
    have hsa : (w3.alloc (.cells #[.int .i64 i2, .int .i64 j2, .bool b2, .slice a3 n3 c3, .slice a4 n4 c4] 26)).heap.size = w3.heap.size + 1 := by simp
    obtain ⟨W4, hW4⟩ : ∃ W4, W4 = w3.alloc (.cells #[.int .i64 i2, .int .i64 j2, .bool b2, .slice a3 n3 c3, .slice a4 n4 c4] 26) := ⟨_, rfl⟩
    rw [← hW4] at hal hsa ⊢
    clear hW4
    have hbx4 := hbx3.kept hal
    have x8 := heap_kept hal (by omega) ((t3.block w.heap.size (by omega) (.inl (by omega))).trans b0')
    have hB4 : Below w.heap.size w W4 := (hB1.trans (t3.below (by omega) (by omega))).trans (hal.mono (by omega))
    obtain ⟨d0, d1, d2, d3⟩ := RBox.cells hbx4
    have X8 : Hid (_ = _) := x8
    have hne3 : ¬ w.heap.size + 1 = w.heap.size := by omega
    have zc0 : W4.cell? ⟨w.heap.size, 0, none⟩ = some (.int .i64 0) := (cell_of_row _ (w.heap.size) 0 _ 26 (0, 0) X8.out).trans rfl
    have zf0 : W4.frozen? ⟨w.heap.size, 0, none⟩ = false := frozen_of_row W4 (w.heap.size) 0 _ 26 X8.out
    have zc1 : W4.cell? ⟨w.heap.size, 1, none⟩ = some (.int .i64 0) := (cell_of_row _ (w.heap.size) 1 _ 26 (0, 0) X8.out).trans rfl
    have zf1 : W4.frozen? ⟨w.heap.size, 1, none⟩ = false := frozen_of_row W4 (w.heap.size) 1 _ 26 X8.out
    have zc2 : W4.cell? ⟨w.heap.size, 2, none⟩ = some (.bool false) := (cell_of_row _ (w.heap.size) 2 _ 26 (0, 0) X8.out).trans rfl
    have zf2 : W4.frozen? ⟨w.heap.size, 2, none⟩ = false := frozen_of_row W4 (w.heap.size) 2 _ 26 X8.out
    have zc3 : W4.cell? ⟨w.heap.size, 3, none⟩ = some (.slice none 0 0) := (cell_of_row _ (w.heap.size) 3 _ 26 (0, 0) X8.out).trans rfl
    have zf3 : W4.frozen? ⟨w.heap.size, 3, none⟩ = false := frozen_of_row W4 (w.heap.size) 3 _ 26 X8.out
    have zc4 : W4.cell? ⟨w.heap.size, 4, none⟩ = some (.slice none 0 0) := (cell_of_row _ (w.heap.size) 4 _ 26 (0, 0) X8.out).trans rfl
    have zf4 : W4.frozen? ⟨w.heap.size, 4, none⟩ = false := frozen_of_row W4 (w.heap.size) 4 _ 26 X8.out
    clear x8 hbx3 hbx4 t3 hal HC b0' b1' hB1
    go_upto_region 8 with fail
    go_region
    go_wp2
    have q0 := heap_setCell_same (W4) (w.heap.size) 0 _ 26 (.int .i64 0) X8.out
    have q1 := heap_setCell_same ((W4).setCell ⟨w.heap.size, 0, none⟩ (.int .i64 0)) (w.heap.size) 1 _ 26 (.int .i64 0) q0
    have q2 := heap_setCell_same (((W4).setCell ⟨w.heap.size, 0, none⟩ (.int .i64 0)).setCell ⟨w.heap.size, 1, none⟩ (.int .i64 0)) (w.heap.size) 2 _ 26 (.bool false) q1
    have q3 := heap_setCell_same ((((W4).setCell ⟨w.heap.size, 0, none⟩ (.int .i64 0)).setCell ⟨w.heap.size, 1, none⟩ (.int .i64 0)).setCell ⟨w.heap.size, 2, none⟩ (.bool false)) (w.heap.size) 3 _ 26 (.slice none 0 0) q2
    have q4 := heap_setCell_same (((((W4).setCell ⟨w.heap.size, 0, none⟩ (.int .i64 0)).setCell ⟨w.heap.size, 1, none⟩ (.int .i64 0)).setCell ⟨w.heap.size, 2, none⟩ (.bool false)).setCell ⟨w.heap.size, 3, none⟩ (.slice none 0 0)) (w.heap.size) 4 _ 26 (.slice none 0 0) q3
    have tt : Touch (w.heap.size) (w.heap.size + 1) W4 ((((((W4).setCell ⟨w.heap.size, 0, none⟩ (.int .i64 0)).setCell ⟨w.heap.size, 1, none⟩ (.int .i64 0)).setCell ⟨w.heap.size, 2, none⟩ (.bool false)).setCell ⟨w.heap.size, 3, none⟩ (.slice none 0 0)).setCell ⟨w.heap.size, 4, none⟩ (.slice none 0 0)) := ((((touch_set _ _ _ _ (by omega) (by omega)).trans (touch_set _ _ _ _ (by omega) (by omega))).trans (touch_set _ _ _ _ (by omega) (by omega))).trans (touch_set _ _ _ _ (by omega) (by omega))).trans (touch_set _ _ _ _ (by omega) (by omega))
    have tse : ((((((W4).setCell ⟨w.heap.size, 0, none⟩ (.int .i64 0)).setCell ⟨w.heap.size, 1, none⟩ (.int .i64 0)).setCell ⟨w.heap.size, 2, none⟩ (.bool false)).setCell ⟨w.heap.size, 3, none⟩ (.slice none 0 0)).setCell ⟨w.heap.size, 4, none⟩ (.slice none 0 0)).heap.size = W4.heap.size := by simp
    try simp only [Exit.inBlock, Exit.then]
    refine bodyPost_ret (results_item3 rfl _ (w.heap.size) rfl _ _ _ _ _ _ q4) rfl ?_
    refine ⟨hB4.trans (tt.below (Nat.le_refl _) (by omega)).drew, ?_⟩
    rw [hf.out]
    rfl
  | ok x nx =>
    rw [hit] at HC
    have hR : Hid (readR lax bs = if nx < bs.length then .no 6 nx else .ok x nx) := readR_ok (by omega) (by rw [hlen]; exact hit)
    clear hit
    go_upto_region 5 with (go_at_call 44; refine HC.mono ?_; rintro ev w3 ⟨t3, ⟨ab, nb, cb, ak, nk, ck, M, rfl, m1, m2, ob, ok⟩, hbx3⟩; unfold itv)
    have hs3 := t3.size
    have hal : Below w3.heap.size w3 (w3.alloc (.cells #[.int .i64 x.cls, .int .i64 x.tag, .bool x.cons, .slice ab nb cb, .slice ak nk ck] 26)) := (Below.refl _ _).alloc (Nat.le_refl _) _
    have hsa : (w3.alloc (.cells #[.int .i64 x.cls, .int .i64 x.tag, .bool x.cons, .slice ab nb cb, .slice ak nk ck] 26)).heap.size = w3.heap.size + 1 := by simp
    have gk := heap_alloc_new w3 (.cells #[.int .i64 x.cls, .int .i64 x.tag, .bool x.cons, .slice ab nb cb, .slice ak nk ck] 26)
    obtain ⟨W4, hW4⟩ : ∃ W4, W4 = w3.alloc (.cells #[.int .i64 x.cls, .int .i64 x.tag, .bool x.cons, .slice ab nb cb, .slice ak nk ck] 26) := ⟨_, rfl⟩
    rw [← hW4] at hal hsa gk ⊢
    clear hW4
    have hbx4 := hbx3.kept hal
    have x8 := heap_kept hal (by omega) ((t3.block w.heap.size (by omega) (.inl (by omega))).trans b0')
    have hB4 : Below w.heap.size w W4 := (hB1.trans (t3.below (by omega) (by omega))).trans (hal.mono (by omega))
    have HOB : Hid (OwnB W1.heap.size M W4 ab nb cb x.body) := ob.kept hal
    have HOK : Hid (OwnKids 12 M w3.heap.size W4 ak nk x.kids) := ok.kept hal
    obtain ⟨d0, d1, d2, d3⟩ := RBox.cells hbx4
    have X8 : Hid (_ = _) := x8
    have XK : Hid (_ = _) := gk
    have HB4 : Hid (_) := hB4
    have HBX4 : Hid (RBox (w.heap.size + 1) W4 a n cap lax 0 0) := hbx4
    clear x8 gk hbx3 t3 hal HC b0' b1' hB1 ob ok hbx4
    by_cases hlt : nx < n
    · have hf : Hid (readR lax bs = .no 6 nx) := by show _ = _; rw [hR.out, if_pos (by omega)]
      have hlti : (nx : Int) < (n : Int) := by omega
      go_upto_region 7 with (go_at_call 45; refine (fail_any (w.heap.size + 1) a n cap lax 0 6 (nx : Int) W4 HBX4.out).mono ?_; rintro e w9 ⟨rfl, hbx9, t9⟩)
      have hs9 := t9.size
      have x89 := (t9.block w.heap.size (by omega) (.inl (by omega))).trans X8.out
      have hB9 : Below w.heap.size w w9 := HB4.out.trans (t9.below (by omega) (by omega))
      clear d0 d1 d2 d3
      obtain ⟨d0, d1, d2, d3⟩ := RBox.cells hbx9
      have X89 : Hid (_ = _) := x89
      have hne3 : ¬ w.heap.size + 1 = w.heap.size := by omega
      have zc0 : w9.cell? ⟨w.heap.size, 0, none⟩ = some (.int .i64 0) := (cell_of_row _ (w.heap.size) 0 _ 26 (0, 0) X89.out).trans rfl
      have zf0 : w9.frozen? ⟨w.heap.size, 0, none⟩ = false := frozen_of_row w9 (w.heap.size) 0 _ 26 X89.out
      have zc1 : w9.cell? ⟨w.heap.size, 1, none⟩ = some (.int .i64 0) := (cell_of_row _ (w.heap.size) 1 _ 26 (0, 0) X89.out).trans rfl
      have zf1 : w9.frozen? ⟨w.heap.size, 1, none⟩ = false := frozen_of_row w9 (w.heap.size) 1 _ 26 X89.out
      have zc2 : w9.cell? ⟨w.heap.size, 2, none⟩ = some (.bool false) := (cell_of_row _ (w.heap.size) 2 _ 26 (0, 0) X89.out).trans rfl
      have zf2 : w9.frozen? ⟨w.heap.size, 2, none⟩ = false := frozen_of_row w9 (w.heap.size) 2 _ 26 X89.out
      have zc3 : w9.cell? ⟨w.heap.size, 3, none⟩ = some (.slice none 0 0) := (cell_of_row _ (w.heap.size) 3 _ 26 (0, 0) X89.out).trans rfl
      have zf3 : w9.frozen? ⟨w.heap.size, 3, none⟩ = false := frozen_of_row w9 (w.heap.size) 3 _ 26 X89.out
      have zc4 : w9.cell? ⟨w.heap.size, 4, none⟩ = some (.slice none 0 0) := (cell_of_row _ (w.heap.size) 4 _ 26 (0, 0) X89.out).trans rfl
      have zf4 : w9.frozen? ⟨w.heap.size, 4, none⟩ = false := frozen_of_row w9 (w.heap.size) 4 _ 26 X89.out
      clear x89 hbx9 t9 hB4
      go_upto_region 8 with fail
      go_region
      go_wp2
      have q0 := heap_setCell_same (w9) (w.heap.size) 0 _ 26 (.int .i64 0) X89.out
      have q1 := heap_setCell_same ((w9).setCell ⟨w.heap.size, 0, none⟩ (.int .i64 0)) (w.heap.size) 1 _ 26 (.int .i64 0) q0
      have q2 := heap_setCell_same (((w9).setCell ⟨w.heap.size, 0, none⟩ (.int .i64 0)).setCell ⟨w.heap.size, 1, none⟩ (.int .i64 0)) (w.heap.size) 2 _ 26 (.bool false) q1
      have q3 := heap_setCell_same ((((w9).setCell ⟨w.heap.size, 0, none⟩ (.int .i64 0)).setCell ⟨w.heap.size, 1, none⟩ (.int .i64 0)).setCell ⟨w.heap.size, 2, none⟩ (.bool false)) (w.heap.size) 3 _ 26 (.slice none 0 0) q2
      have q4 := heap_setCell_same (((((w9).setCell ⟨w.heap.size, 0, none⟩ (.int .i64 0)).setCell ⟨w.heap.size, 1, none⟩ (.int .i64 0)).setCell ⟨w.heap.size, 2, none⟩ (.bool false)).setCell ⟨w.heap.size, 3, none⟩ (.slice none 0 0)) (w.heap.size) 4 _ 26 (.slice none 0 0) q3
      have tt : Touch (w.heap.size) (w.heap.size + 1) w9 ((((((w9).setCell ⟨w.heap.size, 0, none⟩ (.int .i64 0)).setCell ⟨w.heap.size, 1, none⟩ (.int .i64 0)).setCell ⟨w.heap.size, 2, none⟩ (.bool false)).setCell ⟨w.heap.size, 3, none⟩ (.slice none 0 0)).setCell ⟨w.heap.size, 4, none⟩ (.slice none 0 0)) := ((((touch_set _ _ _ _ (by omega) (by omega)).trans (touch_set _ _ _ _ (by omega) (by omega))).trans (touch_set _ _ _ _ (by omega) (by omega))).trans (touch_set _ _ _ _ (by omega) (by omega))).trans (touch_set _ _ _ _ (by omega) (by omega))
      have tse : ((((((w9).setCell ⟨w.heap.size, 0, none⟩ (.int .i64 0)).setCell ⟨w.heap.size, 1, none⟩ (.int .i64 0)).setCell ⟨w.heap.size, 2, none⟩ (.bool false)).setCell ⟨w.heap.size, 3, none⟩ (.slice none 0 0)).setCell ⟨w.heap.size, 4, none⟩ (.slice none 0 0)).heap.size = w9.heap.size := by simp
      try simp only [Exit.inBlock, Exit.then]
      refine bodyPost_ret (results_item3 rfl _ (w.heap.size) rfl _ _ _ _ _ _ q4) rfl ?_
      refine ⟨hB9.trans (tt.below (Nat.le_refl _) (by omega)).drew, ?_⟩
      rw [hf.out]
      rfl
    · have hf : Hid (readR lax bs = .ok x nx) := by show _ = _; rw [hR.out, if_neg (by omega)]
      have hlti : ¬ (nx : Int) < (n : Int) := by omega
      have zc0 : W4.cell? ⟨w.heap.size, 0, none⟩ = some (.int .i64 0) := (cell_of_row _ (w.heap.size) 0 _ 26 (0, 0) X8.out).trans rfl
      have zf0 : W4.frozen? ⟨w.heap.size, 0, none⟩ = false := frozen_of_row W4 (w.heap.size) 0 _ 26 X8.out
      have zc1 : W4.cell? ⟨w.heap.size, 1, none⟩ = some (.int .i64 0) := (cell_of_row _ (w.heap.size) 1 _ 26 (0, 0) X8.out).trans rfl
      have zf1 : W4.frozen? ⟨w.heap.size, 1, none⟩ = false := frozen_of_row W4 (w.heap.size) 1 _ 26 X8.out
      have zc2 : W4.cell? ⟨w.heap.size, 2, none⟩ = some (.bool false) := (cell_of_row _ (w.heap.size) 2 _ 26 (0, 0) X8.out).trans rfl
      have zf2 : W4.frozen? ⟨w.heap.size, 2, none⟩ = false := frozen_of_row W4 (w.heap.size) 2 _ 26 X8.out
      have zc3 : W4.cell? ⟨w.heap.size, 3, none⟩ = some (.slice none 0 0) := (cell_of_row _ (w.heap.size) 3 _ 26 (0, 0) X8.out).trans rfl
      have zf3 : W4.frozen? ⟨w.heap.size, 3, none⟩ = false := frozen_of_row W4 (w.heap.size) 3 _ 26 X8.out
      have zc4 : W4.cell? ⟨w.heap.size, 4, none⟩ = some (.slice none 0 0) := (cell_of_row _ (w.heap.size) 4 _ 26 (0, 0) X8.out).trans rfl
      have zf4 : W4.frozen? ⟨w.heap.size, 4, none⟩ = false := frozen_of_row W4 (w.heap.size) 4 _ 26 X8.out
      have kc0 : W4.cell? ⟨w3.heap.size, 0, none⟩ = some (.int .i64 x.cls) := (cell_of_row _ (w3.heap.size) 0 _ 26 (0, 0) XK.out).trans rfl
      have kc1 : W4.cell? ⟨w3.heap.size, 1, none⟩ = some (.int .i64 x.tag) := (cell_of_row _ (w3.heap.size) 1 _ 26 (0, 0) XK.out).trans rfl
      have kc2 : W4.cell? ⟨w3.heap.size, 2, none⟩ = some (.bool x.cons) := (cell_of_row _ (w3.heap.size) 2 _ 26 (0, 0) XK.out).trans rfl
      have kc3 : W4.cell? ⟨w3.heap.size, 3, none⟩ = some (.slice ab nb cb) := (cell_of_row _ (w3.heap.size) 3 _ 26 (0, 0) XK.out).trans rfl
      have kc4 : W4.cell? ⟨w3.heap.size, 4, none⟩ = some (.slice ak nk ck) := (cell_of_row _ (w3.heap.size) 4 _ 26 (0, 0) XK.out).trans rfl
      go_wp2
      have q0 := heap_setCell_same (W4) (w.heap.size) 0 _ 26 (.int .i64 x.cls) X8.out
      have q1 := heap_setCell_same ((W4).setCell ⟨w.heap.size, 0, none⟩ (.int .i64 x.cls)) (w.heap.size) 1 _ 26 (.int .i64 x.tag) q0
      have q2 := heap_setCell_same (((W4).setCell ⟨w.heap.size, 0, none⟩ (.int .i64 x.cls)).setCell ⟨w.heap.size, 1, none⟩ (.int .i64 x.tag)) (w.heap.size) 2 _ 26 (.bool x.cons) q1
      have q3 := heap_setCell_same ((((W4).setCell ⟨w.heap.size, 0, none⟩ (.int .i64 x.cls)).setCell ⟨w.heap.size, 1, none⟩ (.int .i64 x.tag)).setCell ⟨w.heap.size, 2, none⟩ (.bool x.cons)) (w.heap.size) 3 _ 26 (.slice ab nb cb) q2
      have q4 := heap_setCell_same (((((W4).setCell ⟨w.heap.size, 0, none⟩ (.int .i64 x.cls)).setCell ⟨w.heap.size, 1, none⟩ (.int .i64 x.tag)).setCell ⟨w.heap.size, 2, none⟩ (.bool x.cons)).setCell ⟨w.heap.size, 3, none⟩ (.slice ab nb cb)) (w.heap.size) 4 _ 26 (.slice ak nk ck) q3
      have tt : Touch (w.heap.size) (w.heap.size + 1) W4 ((((((W4).setCell ⟨w.heap.size, 0, none⟩ (.int .i64 x.cls)).setCell ⟨w.heap.size, 1, none⟩ (.int .i64 x.tag)).setCell ⟨w.heap.size, 2, none⟩ (.bool x.cons)).setCell ⟨w.heap.size, 3, none⟩ (.slice ab nb cb)).setCell ⟨w.heap.size, 4, none⟩ (.slice ak nk ck)) := ((((touch_set _ _ _ _ (by omega) (by omega)).trans (touch_set _ _ _ _ (by omega) (by omega))).trans (touch_set _ _ _ _ (by omega) (by omega))).trans (touch_set _ _ _ _ (by omega) (by omega))).trans (touch_set _ _ _ _ (by omega) (by omega))
      have tse : ((((((W4).setCell ⟨w.heap.size, 0, none⟩ (.int .i64 x.cls)).setCell ⟨w.heap.size, 1, none⟩ (.int .i64 x.tag)).setCell ⟨w.heap.size, 2, none⟩ (.bool x.cons)).setCell ⟨w.heap.size, 3, none⟩ (.slice ab nb cb)).setCell ⟨w.heap.size, 4, none⟩ (.slice ak nk ck)).heap.size = W4.heap.size := by simp
      try simp only [Exit.inBlock, Exit.then]
      refine bodyPost_ret (results_item3 rfl _ (w.heap.size) rfl _ _ _ _ _ _ q4) rfl ?_
      refine ⟨HB4.out.trans (tt.below (Nat.le_refl _) (by omega)), ?_⟩
      rw [hf.out]
      refine ⟨ab, nb, cb, ak, nk, ck, M, rfl, by omega, by omega, (HOB.out.touch (.inr (by omega)) tt).mono (by omega) (Nat.le_refl _), ?_⟩
      exact (ownKids_moves 12 _ _ _ _ _ _ _ _ _ HOK.out (.inr (by omega)) tt).wide (by rw [tse]; omega)

end Go.Proofs.YtjkkokjojaknkaaDoor
