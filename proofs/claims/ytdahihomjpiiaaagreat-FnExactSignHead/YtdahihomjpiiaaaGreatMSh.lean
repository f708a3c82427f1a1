import Derived.Test.YtdahihomjpiiaaaGreatSA4
import Derived.Test.YtdahihomjpiiaaaGreatMHs
import Derived.Test.YtdahihomjpiiaaaGreatMQs
import Derived.Deep.RegionHeld3
import Derived.Deep.DeepCutAuto
import Derived.Deep.RegionWith
import Derived.Test.YtdahihomjpiiaaaGreatMSA
namespace Go.Proofs.YtdahihomjpiiaaaGreat
open Go.RowKit Go.Sort

def bodyOf (tag log sz root at2 : Int) : List Int := (enc 12 (hdI tag log sz root at2)).getD []
theorem bodyOf_enc (tag log sz root at2 : Int) (h0 : 1 ≤ tag) (h1 : tag ≤ 30) : enc 12 (hdI tag log sz root at2) = some (bodyOf tag log sz root at2) ∧ (bodyOf tag log sz root at2).length ≤ 1000 := by
  obtain ⟨l, hl, hll⟩ := hdI_enc tag log sz root at2 h0 h1
  unfold bodyOf
  rw [hl]
  exact ⟨rfl, hll⟩
/-- What SignHead answers. -/
structure ShV where
  lg : Int
  sz : Int
  rt : Int
  at2 : Int
  sg : List Int
  t : Sc4
  cd : Int
def shBad (cd : Int) : ShV := ⟨0, 0, 0, 0, [], (0, 0, 0, 0), cd⟩
def shV (log at2 : Int) (zs : List Int) (sc x h nx : Int) : ShV :=
  if (lrR zs).2 = true ∧ headP log (zs.length : Int) (lrR zs).1 at2 then
    (if (saV sc x h nx (bodyOf 6 log (zs.length : Int) (lrR zs).1 at2)).2.2 = 0 then ⟨log, (zs.length : Int), (lrR zs).1, at2, (saV sc x h nx (bodyOf 6 log (zs.length : Int) (lrR zs).1 at2)).1, (saV sc x h nx (bodyOf 6 log (zs.length : Int) (lrR zs).1 at2)).2.1, 0⟩
    else shBad (saV sc x h nx (bodyOf 6 log (zs.length : Int) (lrR zs).1 at2)).2.2)
  else shBad 31
def shOut (v : ShV) (a : Option Addr) (c : Nat) : Value := .tuple #[.agg #[.int .i64 v.lg, .int .i64 v.sz, .int .u64 v.rt, .int .i64 v.at2, .slice a v.sg.length c], scw v.t, .int .i64 v.cd]
theorem results_sh {fn : Func} {t u v : Tmp} (h : fn.results = #[.cell t 28, .cell u 29, .tmp v]) (tmps : Array Value) (g g' : Nat) (ht : tmps.getD t undef = .pointer (some ⟨g, 0, none⟩)) (hu : tmps.getD u undef = .pointer (some ⟨g', 0, none⟩)) (x : Value) (hv : tmps.getD v undef = x) (w : World) (c0 c1 c2 c3 c4 e0 e1 e2 e3 : Value)
    (hb : w.heap[g]? = some (.cells #[c0, c1, c2, c3, c4] 28 (0, 0))) (hb' : w.heap[g']? = some (.cells #[e0, e1, e2, e3] 29 (0, 0))) : (results fn tmps).run Tryz.prog w = .ok (.tuple #[.agg #[c0, c1, c2, c3, c4], .agg #[e0, e1, e2, e3], x]) w := by
  have d0 : w.cell? ⟨g, 0, none⟩ = some c0 := (cell_of_row _ g 0 _ 28 (0, 0) hb).trans rfl
  have d1 : w.cell? ⟨g, 1, none⟩ = some c1 := (cell_of_row _ g 1 _ 28 (0, 0) hb).trans rfl
  have d2 : w.cell? ⟨g, 2, none⟩ = some c2 := (cell_of_row _ g 2 _ 28 (0, 0) hb).trans rfl
  have d3 : w.cell? ⟨g, 3, none⟩ = some c3 := (cell_of_row _ g 3 _ 28 (0, 0) hb).trans rfl
  have d4 : w.cell? ⟨g, 4, none⟩ = some c4 := (cell_of_row _ g 4 _ 28 (0, 0) hb).trans rfl
  have k0 : w.cell? ⟨g', 0, none⟩ = some e0 := (cell_of_row _ g' 0 _ 29 (0, 0) hb').trans rfl
  have k1 : w.cell? ⟨g', 1, none⟩ = some e1 := (cell_of_row _ g' 1 _ 29 (0, 0) hb').trans rfl
  have k2 : w.cell? ⟨g', 2, none⟩ = some e2 := (cell_of_row _ g' 2 _ 29 (0, 0) hb').trans rfl
  have k3 : w.cell? ⟨g', 3, none⟩ = some e3 := (cell_of_row _ g' 3 _ 29 (0, 0) hb').trans rfl
  clear hb hb'
  have ht' : tmps[t]?.getD undef = .pointer (some ⟨g, 0, none⟩) := by rw [← ht]; simp
  have hu' : tmps[u]?.getD undef = .pointer (some ⟨g', 0, none⟩) := by rw [← hu]; simp
  have hv' : tmps[v]?.getD undef = x := by rw [← hv]; simp
  simp [results, h, go_sem, ht', hu', hv', d0, d1, d2, d3, d4, k0, k1, k2, k3]
structure BxS (g : Nat) (sc x h nx : Int) (W : World) : Prop where
  s : W.heap[g]? = some (.cells #[.int .i64 sc, .int .u64 x, .int .i64 h, .int .i64 nx] 29)
  d : W.heap[g + 1]? = some (.cells #[.int .i64 0, .int .i64 0, .int .u64 0, .int .i64 0, .slice none 0 0] 28)
  r : W.heap[g + 1 + 1]? = some (.cells #[.int .i64 0, .int .u64 0, .int .i64 0, .int .i64 0] 29)
theorem BxS.kept {g : Nat} {sc x h nx : Int} {W W' : World} (b : BxS g sc x h nx W) (hb : Below W.heap.size W W') : BxS g sc x h nx W' :=
  ⟨(hb.block _ (Array.getElem?_eq_some_iff.1 b.s).1).trans b.s, (hb.block _ (Array.getElem?_eq_some_iff.1 b.d).1).trans b.d, (hb.block _ (Array.getElem?_eq_some_iff.1 b.r).1).trans b.r⟩
theorem bxs_new (w : World) (sc x h nx : Int) : BxS w.heap.size sc x h nx (((w.alloc (.cells #[.int .i64 sc, .int .u64 x, .int .i64 h, .int .i64 nx] 29)).alloc (.cells #[.int .i64 0, .int .i64 0, .int .u64 0, .int .i64 0, .slice none 0 0] 28)).alloc (.cells #[.int .i64 0, .int .u64 0, .int .i64 0, .int .i64 0] 29)) := by
  have s1 : (w.alloc (.cells #[.int .i64 sc, .int .u64 x, .int .i64 h, .int .i64 nx] 29)).heap.size = w.heap.size + 1 := by simp
  have s2 : ((w.alloc (.cells #[.int .i64 sc, .int .u64 x, .int .i64 h, .int .i64 nx] 29)).alloc (.cells #[.int .i64 0, .int .i64 0, .int .u64 0, .int .i64 0, .slice none 0 0] 28)).heap.size = w.heap.size + 1 + 1 := by simp
  refine ⟨(alloc_oldT _ _ _ (by simp; omega)).trans ((alloc_oldT _ _ _ (by simp)).trans (heap_alloc_new w _)), (alloc_oldT _ _ _ (by simp)).trans ?_, ?_⟩
  · have := heap_alloc_new (w.alloc (.cells #[.int .i64 sc, .int .u64 x, .int .i64 h, .int .i64 nx] 29)) (.cells #[.int .i64 0, .int .i64 0, .int .u64 0, .int .i64 0, .slice none 0 0] 28)
    rwa [s1] at this
  · have := heap_alloc_new ((w.alloc (.cells #[.int .i64 sc, .int .u64 x, .int .i64 h, .int .i64 nx] 29)).alloc (.cells #[.int .i64 0, .int .i64 0, .int .u64 0, .int .i64 0, .slice none 0 0] 28)) (.cells #[.int .i64 0, .int .u64 0, .int .i64 0, .int .i64 0] 29)
    rwa [s2] at this
theorem cells5 {W : World} {g : Nat} {x y z u v : Value} {t : TypeId} (h : W.heap[g]? = some (.cells #[x, y, z, u, v] t (0, 0))) : W.cell? ⟨g, 0, none⟩ = some x ∧ W.cell? ⟨g, 1, none⟩ = some y ∧ W.cell? ⟨g, 2, none⟩ = some z ∧ W.cell? ⟨g, 3, none⟩ = some u ∧ W.cell? ⟨g, 4, none⟩ = some v :=
  ⟨(cell_of_row _ _ 0 _ t (0, 0) h).trans rfl, (cell_of_row _ _ 1 _ t (0, 0) h).trans rfl, (cell_of_row _ _ 2 _ t (0, 0) h).trans rfl, (cell_of_row _ _ 3 _ t (0, 0) h).trans rfl, (cell_of_row _ _ 4 _ t (0, 0) h).trans rfl⟩
theorem frozen5 {W : World} {g : Nat} {cs : Array Value} {t : TypeId} (h : W.heap[g]? = some (.cells cs t (0, 0))) : W.frozen? ⟨g, 0, none⟩ = false ∧ W.frozen? ⟨g, 1, none⟩ = false ∧ W.frozen? ⟨g, 2, none⟩ = false ∧ W.frozen? ⟨g, 3, none⟩ = false ∧ W.frozen? ⟨g, 4, none⟩ = false :=
  ⟨frozen_of_row W _ 0 _ t h, frozen_of_row W _ 1 _ t h, frozen_of_row W _ 2 _ t h, frozen_of_row W _ 3 _ t h, frozen_of_row W _ 4 _ t h⟩
def nine (w : World) (g : Nat) (u0 u1 u2 u3 u4 v0 v1 v2 v3 : Value) : World := set4 (put5 w g u0 u1 u2 u3 u4) (g + 1) v0 v1 v2 v3
theorem set4_touch (w : World) (g : Nat) (v0 v1 v2 v3 : Value) : Touch g (g + 1) w (set4 w g v0 v1 v2 v3) :=
  (((touch_set1 w g _ v0).trans (touch_set1 _ g _ v1)).trans (touch_set1 _ g _ v2)).trans (touch_set1 _ g _ v3)
theorem nine_touch (w : World) (g : Nat) (u0 u1 u2 u3 u4 v0 v1 v2 v3 : Value) : Touch g (g + 1 + 1) w (nine w g u0 u1 u2 u3 u4 v0 v1 v2 v3) :=
  ((put5_touch w g u0 u1 u2 u3 u4).mono (Nat.le_refl _) (by omega)).trans ((set4_touch _ (g + 1) v0 v1 v2 v3).mono (by omega) (Nat.le_refl _))
theorem nine_d {w : World} {g t : Nat} {c0 c1 c2 c3 c4 : Value} (h : w.heap[g]? = some (.cells #[c0, c1, c2, c3, c4] t (0, 0))) (u0 u1 u2 u3 u4 v0 v1 v2 v3 : Value) : (nine w g u0 u1 u2 u3 u4 v0 v1 v2 v3).heap[g]? = some (.cells #[u0, u1, u2, u3, u4] t (0, 0)) := by
  have hl := (Array.getElem?_eq_some_iff.1 h).1
  have h1 := put5_heap h u0 u1 u2 u3 u4
  exact ((set4_touch _ (g + 1) v0 v1 v2 v3).block g ((Array.getElem?_eq_some_iff.1 h1).1) (.inl (by omega))).trans h1
theorem nine_r {w : World} {g t : Nat} {c0 c1 c2 c3 : Value} (h : w.heap[g + 1]? = some (.cells #[c0, c1, c2, c3] t (0, 0))) (u0 u1 u2 u3 u4 v0 v1 v2 v3 : Value) : (nine w g u0 u1 u2 u3 u4 v0 v1 v2 v3).heap[g + 1]? = some (.cells #[v0, v1, v2, v3] t (0, 0)) := by
  have hl := (Array.getElem?_eq_some_iff.1 h).1
  exact heap_set4 (((put5_touch w g u0 u1 u2 u3 u4).block (g + 1) hl (.inr (by omega))).trans h) v0 v1 v2 v3
theorem bxs_out {w W : World} {sc x h nx : Int} (b : BxS w.heap.size sc x h nx W) (hb : Below w.heap.size w W) (u0 u1 u2 u3 u4 v0 v1 v2 v3 : Value) :
    (nine W (w.heap.size + 1) u0 u1 u2 u3 u4 v0 v1 v2 v3).heap[w.heap.size + 1]? = some (.cells #[u0, u1, u2, u3, u4] 28 (0, 0)) ∧ (nine W (w.heap.size + 1) u0 u1 u2 u3 u4 v0 v1 v2 v3).heap[w.heap.size + 1 + 1]? = some (.cells #[v0, v1, v2, v3] 29 (0, 0)) ∧ Below w.heap.size w (nine W (w.heap.size + 1) u0 u1 u2 u3 u4 v0 v1 v2 v3) ∧ Touch (w.heap.size + 1) (w.heap.size + 1 + 1 + 1) W (nine W (w.heap.size + 1) u0 u1 u2 u3 u4 v0 v1 v2 v3) :=
  ⟨nine_d b.d _ _ _ _ _ _ _ _ _, nine_r b.r _ _ _ _ _ _ _ _ _, hb.trans ((nine_touch W _ _ _ _ _ _ _ _ _ _).below (by omega) hb.size), nine_touch W _ _ _ _ _ _ _ _ _ _⟩
theorem lrR_rt {zs : List Int} (hz : ∀ k, U64 (zs.getD k 0)) : U64 (lrR zs).1 := by
  unfold lrR
  split
  · exact rootL_bd zs hz
  · exact ⟨by decide, by decide⟩
theorem lrR_ok {zs : List Int} (h : (lrR zs).2 = true) : zs.length ≤ 200 := by
  unfold lrR at h
  split at h
  · assumption
  · cases h

end Go.Proofs.YtdahihomjpiiaaaGreat

namespace Go.Proofs.YtdahihomjpiiaaaGreat
open Go.RowKit Go.Sort

def Zs (w4 w : World) (g : Nat) : Prop := w.heap[g]? = some (.cells #[.int .i64 0, .int .u64 0, .int .i64 0, .int .i64 0] 29 (0, 0)) ∧ w4.heap.size ≤ g
theorem Zs.kept {w4 w w' : World} {g : Nat} (h : Zs w4 w g) (hb : Below w.heap.size w w') : Zs w4 w' g := ⟨(hb.block _ (Array.getElem?_eq_some_iff.1 h.1).1).trans h.1, h.2⟩
theorem zs_new {w4 w : World} (h : w4.heap.size ≤ w.heap.size) : Zs w4 (w.alloc (.cells #[.int .i64 0, .int .u64 0, .int .i64 0, .int .i64 0] 29)) w.heap.size := ⟨heap_alloc_new w _, h⟩
def BoxSg (sg : List Int) (t : Sc4) (cd : Int) (w4 : World) (u v k : Value) (W : World) : Prop := ∃ (g : Nat) (ag : Option Addr) (cg : Nat), u = .slice ag sg.length cg ∧ v = .pointer (some ⟨g, 0, none⟩) ∧ k = .int .i64 cd ∧ W.heap[g]? = some (.cells #[.int .i64 t.1, .int .u64 t.2.1, .int .i64 t.2.2.1, .int .i64 t.2.2.2] 29 (0, 0)) ∧ Own w4.heap.size W ag sg.length cg sg ∧ w4.heap.size ≤ g ∧ Below w4.heap.size w4 W
theorem boxsg_below {sg : List Int} {t : Sc4} {cd : Int} {w4 W : World} {u v k : Value} (h : BoxSg sg t cd w4 u v k W) : Below w4.heap.size w4 W := by
  obtain ⟨_, _, _, _, _, _, _, _, _, h⟩ := h
  exact h
theorem boxsg_late {sg : List Int} {t : Sc4} {cd : Int} {w4 wq wr : World} {ag : Option Addr} {cg : Nat} (hO : Own wq.heap.size wr ag sg.length cg sg) (hq : Below w4.heap.size w4 wq) (hr : Below wq.heap.size wq wr) :
    BoxSg sg t cd w4 (.slice ag sg.length cg) (.pointer (some ⟨wr.heap.size, 0, none⟩)) (.int .i64 cd) (wr.alloc (.cells #[.int .i64 t.1, .int .u64 t.2.1, .int .i64 t.2.2.1, .int .i64 t.2.2.2] 29)) := by
  have hb : Below wr.heap.size wr (wr.alloc (.cells #[.int .i64 t.1, .int .u64 t.2.1, .int .i64 t.2.2.1, .int .i64 t.2.2.2] 29)) := (Below.refl _ _).alloc (Nat.le_refl _) _
  exact ⟨wr.heap.size, ag, cg, rfl, rfl, rfl, heap_alloc_new wr _, (hO.kept hb).mono hq.size, Nat.le_trans hq.size hr.size, keepT (keepT hq hr) hb⟩
theorem boxsg_early {sg : List Int} {t : Sc4} {cd : Int} {w4 wq wr : World} {g : Nat} {ag : Option Addr} {cg : Nat} (hO : Own wq.heap.size wr ag sg.length cg sg) (hq : Below w4.heap.size w4 wq) (hr : Below wq.heap.size wq wr) (hz : Zs w4 wq g) :
    BoxSg sg t cd w4 (.slice ag sg.length cg) (.pointer (some ⟨g, 0, none⟩)) (.int .i64 cd) ((((wr.setCell ⟨g, 0, none⟩ (.int .i64 t.1)).setCell ⟨g, 1, none⟩ (.int .u64 t.2.1)).setCell ⟨g, 2, none⟩ (.int .i64 t.2.2.1)).setCell ⟨g, 3, none⟩ (.int .i64 t.2.2.2)) := by
  have hl := (Array.getElem?_eq_some_iff.1 hz.1).1
  exact ⟨g, ag, cg, rfl, rfl, rfl, heap_set4 (hz.kept hr).1 _ _ _ _, (hO.set4 hl _ _ _ _).mono hq.size, hz.2, below_set4 (keepT hq hr) g hz.2 _ _ _ _⟩

set_option maxRecDepth 10000 in
set_option maxHeartbeats 8000000 in
theorem implSignHead_any (log at2 : Int) (a : Option Addr) (n c : Nat) (zs : List Int) (sc x h nx : Int) (w : World) (hx : U64 x) (hr : RowU w a n zs) :
    Calls Tryz.prog 7 #[.int .i64 log, .slice a n c, .int .i64 at2, .agg #[.int .i64 sc, .int .u64 x, .int .i64 h, .int .i64 nx]] w fun e w' => ∃ ag cg, e = .returned (shOut (shV log at2 zs sc x h nx) ag cg) ∧ Own w.heap.size w' ag (shV log at2 zs sc x h nx).sg.length cg (shV log at2 zs sc x h nx).sg ∧ Below w.heap.size w w' := by
  obtain ⟨V, hV⟩ : ∃ V, V = shV log at2 zs sc x h nx := ⟨_, rfl⟩
  have HV0 : Hid (V = shV log at2 zs sc x h nx) := hV
  rw [← hV]
  clear hV
  obtain ⟨w1, hw1⟩ : ∃ w1, w1 = ((w.alloc (.cells #[.int .i64 sc, .int .u64 x, .int .i64 h, .int .i64 nx] 29)).alloc (.cells #[.int .i64 0, .int .i64 0, .int .u64 0, .int .i64 0, .slice none 0 0] 28)).alloc (.cells #[.int .i64 0, .int .u64 0, .int .i64 0, .int .i64 0] 29) := ⟨_, rfl⟩
  have hbb : Below w.heap.size w w1 := by rw [hw1]; exact (((Below.refl _ _).alloc (Nat.le_refl _) _).alloc (by simp) _).alloc (by simp; omega) _
  have HB1 : Hid (BxS w.heap.size sc x h nx w1) := by show BxS _ _ _ _ _ _; rw [hw1]; exact bxs_new w sc x h nx
  have HR1 : Hid (RowU w1 a n zs) := hr.kept hbb
  have HW : Hid (_ = _) := hw1
  have hlen : zs.length = n := hr.len
  have hru := lrR_rt hr.rng
  clear hw1 hr
  go_enter Tryz.func7, Tryz.ntmps7
  go_wp2_with fail
  rw [← HW.out]
  clear HW
  refine (implLogRoot_any a n c zs _ HR1.out).mono ?_
  rintro e w2 ⟨rfl, hb2⟩
  obtain ⟨rt, hrt⟩ : ∃ rt, rt = (lrR zs).1 := ⟨_, rfl⟩
  obtain ⟨ok, hok⟩ : ∃ ok, ok = (lrR zs).2 := ⟨_, rfl⟩
  rw [← hrt] at hru
  have HV : Hid (V = if ok = true ∧ headP log (n : Int) rt at2 then (if (saV sc x h nx (bodyOf 6 log (n : Int) rt at2)).2.2 = 0 then ⟨log, (n : Int), rt, at2, (saV sc x h nx (bodyOf 6 log (n : Int) rt at2)).1, (saV sc x h nx (bodyOf 6 log (n : Int) rt at2)).2.1, 0⟩ else shBad (saV sc x h nx (bodyOf 6 log (n : Int) rt at2)).2.2) else shBad 31) := by show _ = _; rw [HV0.out]; unfold shV; rw [← hrt, ← hok, hlen]
  have HOK : Hid (ok = true → n ≤ 200) := fun h => by rw [← hlen]; exact lrR_ok (hok ▸ h)
  rw [← hrt, ← hok]
  clear hrt hok HV0
  obtain ⟨wd, hwd⟩ : ∃ wd, wd = w2.alloc (.cells #[.int .i64 log, .int .i64 (n : Int), .int .u64 rt, .int .i64 at2, .slice none 0 0] 28) := ⟨_, rfl⟩
  have hb3 : Below w2.heap.size w2 wd := by rw [hwd]; exact (Below.refl _ _).alloc (Nat.le_refl _) _
  have HKD : Hid (wd.heap[w2.heap.size]? = some (.cells #[.int .i64 log, .int .i64 (n : Int), .int .u64 rt, .int .i64 at2, .slice none 0 0] 28 (0, 0))) := by show _ = _; rw [hwd]; exact heap_alloc_new w2 _
  have hlt : w2.heap.size < wd.heap.size := (Array.getElem?_eq_some_iff.1 HKD.out).1
  have hb1d : Below w1.heap.size w1 wd := keepT hb2 hb3
  have HBX : Hid (BxS w.heap.size sc x h nx wd) := HB1.out.kept hb1d
  have HBW : Hid (Below w.heap.size w wd) := keepT hbb hb1d
  have HWD : Hid (_ = _) := hwd
  clear hwd
  go_upto_region 3 with fail
  rw [← HWD.out]
  clear HWD
  cases ok with
  | false =>
    have HV := (show Hid (V = shBad 31) by show _ = _; rw [HV.out, if_neg (by simp)])
    obtain ⟨r0, r1, r2, r3, r4⟩ := cells5 HBX.out.d
    obtain ⟨f0, f1, f2, f3, f4⟩ := frozen5 HBX.out.d
    obtain ⟨s0, s1, s2, s3⟩ := cells4 HBX.out.r
    obtain ⟨g0, g1, g2, g3⟩ := frozen4 HBX.out.r
    go_wp2
    try simp only [Exit.inBlock, Exit.then]
    obtain ⟨o1, o2, o3, o4⟩ := bxs_out HBX.out HBW.out (.int .i64 0) (.int .i64 0) (.int .u64 0) (.int .i64 0) (.slice none 0 0) (.int .i64 0) (.int .u64 0) (.int .i64 0) (.int .i64 0)
    unfold nine set4 put5 at o1 o2 o3
    exact bodyPost_ret (results_sh rfl _ (w.heap.size + 1) (w.heap.size + 1 + 1) rfl rfl _ rfl _ _ _ _ _ _ _ _ _ _ o1 o2) rfl ⟨none, 0, by rw [HV.out]; rfl, by rw [HV.out]; exact own_none _ _, o3⟩
  | true =>
    have hn := HOK.out rfl
    obtain ⟨b0, b1, b2, b3, b4⟩ := cells5 HKD.out
    go_wp2_with fail
    refine (isRight_agg log (n : Int) rt at2 none 0 0 _).mono ?_
    rintro e w4 ⟨rfl, hb4⟩
    have HBX := (show Hid (BxS w.heap.size sc x h nx w4) from HBX.out.kept hb4)
    have HBW := (show Hid (Below w.heap.size w w4) from keepT HBW.out hb4)
    have HK4 : Hid (w4.heap[w2.heap.size]? = some (.cells #[.int .i64 log, .int .i64 (n : Int), .int .u64 rt, .int .i64 at2, .slice none 0 0] 28 (0, 0))) := (hb4.block _ hlt).trans HKD.out
    clear b0 b1 b2 b3 b4
    by_cases hp : headP log (n : Int) rt at2
    case neg =>
      have HV := (show Hid (V = shBad 31) by show _ = _; rw [HV.out, if_neg (fun h => hp h.2)])
      rw [decide_eq_false hp]
      clear hp
      obtain ⟨r0, r1, r2, r3, r4⟩ := cells5 HBX.out.d
      obtain ⟨f0, f1, f2, f3, f4⟩ := frozen5 HBX.out.d
      obtain ⟨s0, s1, s2, s3⟩ := cells4 HBX.out.r
      obtain ⟨g0, g1, g2, g3⟩ := frozen4 HBX.out.r
      go_wp2
      try simp only [Exit.inBlock, Exit.then]
      obtain ⟨o1, o2, o3, o4⟩ := bxs_out HBX.out HBW.out (.int .i64 0) (.int .i64 0) (.int .u64 0) (.int .i64 0) (.slice none 0 0) (.int .i64 0) (.int .u64 0) (.int .i64 0) (.int .i64 0)
      unfold nine set4 put5 at o1 o2 o3
      exact bodyPost_ret (results_sh rfl _ (w.heap.size + 1) (w.heap.size + 1 + 1) rfl rfl _ rfl _ _ _ _ _ _ _ _ _ _ o1 o2) rfl ⟨none, 0, by rw [HV.out]; rfl, by rw [HV.out]; exact own_none _ _, o3⟩
    case pos =>
      rw [decide_eq_true hp]
      obtain ⟨bd, hbd⟩ : ∃ bd, bd = bodyOf 6 log (n : Int) rt at2 := ⟨_, rfl⟩
      obtain ⟨hE, hEl⟩ := bodyOf_enc 6 log (n : Int) rt at2 (by decide) (by decide)
      rw [← hbd] at hE hEl
      obtain ⟨sg, hsg⟩ : ∃ sg, sg = (saV sc x h nx bd).1 := ⟨_, rfl⟩
      obtain ⟨t, ht⟩ : ∃ t, t = (saV sc x h nx bd).2.1 := ⟨_, rfl⟩
      obtain ⟨cd, hcd⟩ : ∃ cd, cd = (saV sc x h nx bd).2.2 := ⟨_, rfl⟩
      have HV := (show Hid (V = if cd = 0 then ⟨log, (n : Int), rt, at2, sg, t, 0⟩ else shBad cd) by show _ = _; rw [HV.out, if_pos ⟨by trivial, hp⟩, ← hbd, ← hsg, ← ht, ← hcd])
      have HSA : Hid (∀ (am : Option Addr) (c : Nat) (w : World), Row w am bd.length bd → (am = none → c = 0) → Calls Tryz.prog 21 #[.agg #[.int .i64 sc, .int .u64 x, .int .i64 h, .int .i64 nx], .slice am bd.length c] w fun e w' => ∃ a cap, e = .returned (.tuple #[.slice a sg.length cap, .agg #[.int .i64 t.1, .int .u64 t.2.1, .int .i64 t.2.2.1, .int .i64 t.2.2.2], .int .i64 cd]) ∧ Own w.heap.size w' a sg.length cap sg ∧ Below w.heap.size w w') := by
        intro am c w' h1 h2
        have := implSignAny_any sc x h nx am bd.length c bd w' hx h1 (by omega) h2
        rw [← hsg, ← ht, ← hcd] at this
        exact this
      have HHB : Hid (∀ w, Calls Tryz.prog 22 #[.int .i64 6, .agg #[.int .i64 log, .int .i64 (n : Int), .int .u64 rt, .int .i64 at2, .slice none 0 0], .int .i64 at2] w fun e w' => ∃ a' c', e = .returned (.slice a' bd.length c') ∧ Own w.heap.size w' a' bd.length c' bd ∧ Below w.heap.size w w') := by
        intro w'
        obtain ⟨⟨p1, _, _⟩, p2⟩ := hp
        exact headBody_agg 6 log (n : Int) rt at2 at2 none 0 0 bd w' (by omega) (by omega) hru (by unfold timP at p2; omega) hE
      clear hbd hsg ht hcd hE hEl hp
      have HXD : Hid (∀ W, Below w4.heap.size w4 W → (W.cell? ⟨w.heap.size, 0, none⟩ = some (.int .i64 sc) ∧ W.cell? ⟨w.heap.size, 1, none⟩ = some (.int .u64 x) ∧ W.cell? ⟨w.heap.size, 2, none⟩ = some (.int .i64 h) ∧ W.cell? ⟨w.heap.size, 3, none⟩ = some (.int .i64 nx)) ∧ (W.cell? ⟨w2.heap.size, 0, none⟩ = some (.int .i64 log) ∧ W.cell? ⟨w2.heap.size, 1, none⟩ = some (.int .i64 (n : Int)) ∧ W.cell? ⟨w2.heap.size, 2, none⟩ = some (.int .u64 rt) ∧ W.cell? ⟨w2.heap.size, 3, none⟩ = some (.int .i64 at2) ∧ W.cell? ⟨w2.heap.size, 4, none⟩ = some (.slice none 0 0))) := by
        intro W hW
        have hs := (hW.block _ (Array.getElem?_eq_some_iff.1 HBX.out.s).1).trans HBX.out.s
        have hh := (hW.block _ (Array.getElem?_eq_some_iff.1 HK4.out).1).trans HK4.out
        exact ⟨cells4 hs, cells5 hh⟩
      go_upto_region 5 with fail
      have hcur : Below w4.heap.size w4 w4.drew := (Below.refl _ _).drew
      have SS0 := HXD.out _ hcur
      have SA0 := HXD.out (w4.drew.alloc (.cells #[.int .i64 0, .int .u64 0, .int .i64 0, .int .i64 0] 29)) (hcur.alloc hcur.size _)
      go_cut [14, 15, 16] (fun u v k wx => Hid (BoxSg sg t cd w4 u v k wx))
      case first =>
        go_region_held3 (fun W => (W.cell? ⟨w.heap.size, 0, none⟩ = some (.int .i64 sc) ∧ W.cell? ⟨w.heap.size, 1, none⟩ = some (.int .u64 x) ∧ W.cell? ⟨w.heap.size, 2, none⟩ = some (.int .i64 h) ∧ W.cell? ⟨w.heap.size, 3, none⟩ = some (.int .i64 nx)) ∧ (W.cell? ⟨w2.heap.size, 0, none⟩ = some (.int .i64 log) ∧ W.cell? ⟨w2.heap.size, 1, none⟩ = some (.int .i64 (n : Int)) ∧ W.cell? ⟨w2.heap.size, 2, none⟩ = some (.int .u64 rt) ∧ W.cell? ⟨w2.heap.size, 3, none⟩ = some (.int .i64 at2) ∧ W.cell? ⟨w2.heap.size, 4, none⟩ = some (.slice none 0 0))) (first | assumption | exact SS0 | exact SA0 | exact SS1 | exact SA1 | exact SS2 | exact SA2 | exact SL2 | exact SE2)
          (first
            | (go_at_call 22; first
                | ((with_reducible refine (HHB.out w4.drew).mono ?_); rintro e w5 ⟨a5, c5, rfl, ho5, hb5⟩; have B5 : Below w4.heap.size w4 w5 := keepT hcur hb5; have SS1 := HXD.out _ B5; have SA1 := HXD.out (w5.alloc (.cells #[.int .i64 0, .int .u64 0, .int .i64 0, .int .i64 0] 29)) (B5.alloc B5.size _); have R5 : Hid (Row w5 a5 bd.length bd) := ho5.toRow; have hn5 : a5 = none → c5 = 0 := ho5.nil; clear ho5)
                | ((with_reducible refine (HHB.out _).mono ?_); rintro e w5 ⟨a5, c5, rfl, ho5, hb5⟩; have B5 : Below w4.heap.size w4 w5 := keepT (hcur.alloc hcur.size _) hb5; have SS1 := HXD.out _ B5; have R5 : Hid (Row w5 a5 bd.length bd) := ho5.toRow; have hn5 : a5 = none → c5 = 0 := ho5.nil; have HY5 : Hid (Zs w4 w5 w4.heap.size) := (zs_new (w4 := w4) (w := w4.drew) (Nat.le_refl _)).kept hb5; clear ho5))
            | (go_at_call 21; first
                | ((with_reducible refine (HSA.out a5 c5 w5 R5.out hn5).mono ?_); rintro e w6 ⟨a6, c6, rfl, ho6, hb6⟩; have B6 : Below w4.heap.size w4 w6 := keepT B5 hb6; have SS2 := HXD.out _ B6; have SA2 := HXD.out (w6.alloc (.cells #[.int .i64 0, .int .u64 0, .int .i64 0, .int .i64 0] 29)) (B6.alloc B6.size _); have FL := boxsg_late (t := t) (cd := cd) ho6 B5 hb6; have SL2 := HXD.out _ (boxsg_below FL); (first | (have FE := boxsg_early (t := t) (cd := cd) ho6 B5 hb6 HY5.out; have SE2 := HXD.out _ (boxsg_below FE); obtain ⟨k0, k1, k2, k3⟩ := cells4 (HY5.out.kept hb6).1; obtain ⟨l0, l1, l2, l3⟩ := frozen4 (HY5.out.kept hb6).1) | skip))
                | ((with_reducible refine (HSA.out a5 c5 (w5.alloc (.cells #[.int .i64 0, .int .u64 0, .int .i64 0, .int .i64 0] 29)) (R5.out.kept ((Below.refl _ _).alloc (Nat.le_refl _) _)) hn5).mono ?_); rintro e w6 ⟨a6, c6, rfl, ho6, hb6⟩; have BQ : Below w4.heap.size w4 (w5.alloc (.cells #[.int .i64 0, .int .u64 0, .int .i64 0, .int .i64 0] 29)) := B5.alloc B5.size _; have B6 : Below w4.heap.size w4 w6 := keepT BQ hb6; have SS2 := HXD.out _ B6; have hz : Zs w4 (w5.alloc (.cells #[.int .i64 0, .int .u64 0, .int .i64 0, .int .i64 0] 29)) w5.heap.size := zs_new B5.size; have FE := boxsg_early (t := t) (cd := cd) ho6 BQ hb6 hz; have SE2 := HXD.out _ (boxsg_below FE); obtain ⟨k0, k1, k2, k3⟩ := cells4 (hz.kept hb6).1; obtain ⟨l0, l1, l2, l3⟩ := frozen4 (hz.kept hb6).1)))
        all_goals (
          go_wp2_with fail
          go_meet
          first
          | exact FL
          | exact FE)
      case rest =>
        obtain ⟨g, ag, cg, rfl, rfl, rfl, hg, hO, hgl, hB⟩ := hcut
        have HBX := (show Hid (BxS w.heap.size sc x h nx wc) from HBX.out.kept hB)
        have HBW := (show Hid (Below w.heap.size w wc) from keepT HBW.out hB)
        have HK5 : Hid (wc.heap[w2.heap.size]? = some (.cells #[.int .i64 log, .int .i64 (n : Int), .int .u64 rt, .int .i64 at2, .slice none 0 0] 28 (0, 0))) := (hB.block _ (Array.getElem?_eq_some_iff.1 HK4.out).1).trans HK4.out
        have HG : Hid (wc.heap[g]? = some (.cells #[.int .i64 t.1, .int .u64 t.2.1, .int .i64 t.2.2.1, .int .i64 t.2.2.2] 29 (0, 0))) := hg
        have HO : Hid (Own w4.heap.size wc ag sg.length cg sg) := hO
        clear SS0 SA0 hcur hg hO
        by_cases hc0 : cd = 0
        case neg =>
          have HV := (show Hid (V = shBad cd) by show _ = _; rw [HV.out, if_neg hc0])
          have z1 : (cd != 0) = true := by simp [hc0]
          clear hc0
          obtain ⟨r0, r1, r2, r3, r4⟩ := cells5 HBX.out.d
          obtain ⟨f0, f1, f2, f3, f4⟩ := frozen5 HBX.out.d
          obtain ⟨s0, s1, s2, s3⟩ := cells4 HBX.out.r
          obtain ⟨g0, g1, g2, g3⟩ := frozen4 HBX.out.r
          go_wp2
          try simp only [Exit.inBlock, Exit.then]
          obtain ⟨o1, o2, o3, o4⟩ := bxs_out HBX.out HBW.out (.int .i64 0) (.int .i64 0) (.int .u64 0) (.int .i64 0) (.slice none 0 0) (.int .i64 0) (.int .u64 0) (.int .i64 0) (.int .i64 0)
          unfold nine set4 put5 at o1 o2 o3
          exact bodyPost_ret (results_sh rfl _ (w.heap.size + 1) (w.heap.size + 1 + 1) rfl rfl _ rfl _ _ _ _ _ _ _ _ _ _ o1 o2) rfl ⟨none, 0, by rw [HV.out]; rfl, by rw [HV.out]; exact own_none _ _, o3⟩
        case pos =>
          have HV := (show Hid (V = ⟨log, (n : Int), rt, at2, sg, t, 0⟩) by show _ = _; rw [HV.out, if_pos hc0])
          subst hc0
          obtain ⟨w7, hw7⟩ : ∃ w7, w7 = wc.setCell ⟨w2.heap.size, 4, none⟩ (.slice ag sg.length cg) := ⟨_, rfl⟩
          have ht7 : Touch w2.heap.size (w2.heap.size + 1) wc w7 := by rw [hw7]; exact touch_set1 wc _ 4 _
          have hs1 : w.heap.size + 1 + 1 < w2.heap.size := Nat.lt_of_lt_of_le (Array.getElem?_eq_some_iff.1 HB1.out.r).1 hb2.size
          have hs2 : w2.heap.size < w4.heap.size := (Array.getElem?_eq_some_iff.1 HK4.out).1
          have hs3 := hB.size
          have HK7 : Hid (w7.heap[w2.heap.size]? = some (.cells #[.int .i64 log, .int .i64 (n : Int), .int .u64 rt, .int .i64 at2, .slice ag sg.length cg] 28 (0, 0))) := by show _ = _; rw [hw7]; exact heap_setCell_same _ _ 4 _ _ _ HK5.out
          have HB7 : Hid (BxS w.heap.size sc x h nx w7) := ⟨(ht7.block _ (by omega) (.inl (by omega))).trans HBX.out.s, (ht7.block _ (by omega) (.inl (by omega))).trans HBX.out.d, (ht7.block _ (by omega) (.inl (by omega))).trans HBX.out.r⟩
          have HG7 : Hid (w7.heap[g]? = some (.cells #[.int .i64 t.1, .int .u64 t.2.1, .int .i64 t.2.2.1, .int .i64 t.2.2.2] 29 (0, 0))) := (ht7.block _ (Array.getElem?_eq_some_iff.1 HG.out).1 (.inr (by omega))).trans HG.out
          have HO7 : Hid (Own w4.heap.size w7 ag sg.length cg sg) := HO.out.touch5 ht7 (by omega)
          have HBW7 : Hid (Below w.heap.size w w7) := HBW.out.trans (ht7.below (by omega) (by omega))
          have HW7 : Hid (_ = _) := hw7
          have p4 := (cells5 HK5.out).2.2.2.2
          have q4 := (frozen5 HK5.out).2.2.2.2
          clear hw7
          go_upto_region 9 with fail
          rw [← HW7.out]
          clear HW7 p4 q4
          obtain ⟨a0, a1, a2, a3, a4⟩ := cells5 HK7.out
          obtain ⟨b0, b1, b2, b3⟩ := cells4 HG7.out
          obtain ⟨r0, r1, r2, r3, r4⟩ := cells5 HB7.out.d
          obtain ⟨f0, f1, f2, f3, f4⟩ := frozen5 HB7.out.d
          obtain ⟨s0, s1, s2, s3⟩ := cells4 HB7.out.r
          obtain ⟨g0, g1, g2, g3⟩ := frozen4 HB7.out.r
          have ne1 : (g : Nat) ≠ w.heap.size + 1 := by omega
          have ne2 : w2.heap.size ≠ w.heap.size + 1 := by omega
          go_region
          all_goals
            go_wp2
            try simp only [Exit.inBlock, Exit.then]
            obtain ⟨o1, o2, o3, o4⟩ := bxs_out HB7.out HBW7.out (.int .i64 log) (.int .i64 (n : Int)) (.int .u64 rt) (.int .i64 at2) (.slice ag sg.length cg) (.int .i64 t.1) (.int .u64 t.2.1) (.int .i64 t.2.2.1) (.int .i64 t.2.2.2)
            unfold nine set4 put5 at o1 o2 o3
            exact bodyPost_ret (results_sh rfl _ (w.heap.size + 1) (w.heap.size + 1 + 1) rfl rfl _ rfl _ _ _ _ _ _ _ _ _ _ (by rw [heap_drew]; exact o1) (by rw [heap_drew]; exact o2)) rfl ⟨ag, cg, by rw [HV.out]; rfl, by rw [HV.out]; exact ((HO7.out.touch5 o4 (by omega)).kept ((Below.refl _ _).drew)).mono (by omega), o3.drew⟩

end Go.Proofs.YtdahihomjpiiaaaGreat

namespace Go.Proofs.YtdahihomjpiiaaaGreat
open Go.RowKit Go.Sort

theorem lrR_zero {zs : List Int} (h : zs.length = 0) : (lrR zs).1 = 0 := by
  rw [List.length_eq_zero_iff.1 h]
  unfold lrR
  rw [if_pos (by simp)]
  unfold rootL
  simp

set_option maxRecDepth 10000 in
set_option maxHeartbeats 8000000 in
theorem specSignHead_any (HSPEC : ∀ (seed h next : Int) (am : Option Addr) (n c : Nat) (bs : List Int) (w : World), U64 seed → Row w am n bs → n ≤ 1000000000000 → Calls Tryz.prog 30 #[tkv seed h next, .slice am n c] w fun e w' => ∃ v, e = .returned v ∧ SgR seed h next bs w.heap.size w' v ∧ Below w.heap.size w w')
    (log at2 : Int) (a : Option Addr) (n c : Nat) (zs : List Int) (sc x h nx : Int) (w : World) (hx : U64 x) (hr : RowU w a n zs) (hc : n ≤ c) (hcm : c ≤ 9223372036854775807) :
    Calls Tryz.prog 4 #[.int .i64 log, .slice a n c, .int .i64 at2, .agg #[.int .i64 sc, .int .u64 x, .int .i64 h, .int .i64 nx]] w fun e w' => ∃ ag cg, e = .returned (shOut (shV log at2 zs sc x h nx) ag cg) ∧ Own w.heap.size w' ag (shV log at2 zs sc x h nx).sg.length cg (shV log at2 zs sc x h nx).sg ∧ Below w.heap.size w w' := by
  obtain ⟨V, hV⟩ : ∃ V, V = shV log at2 zs sc x h nx := ⟨_, rfl⟩
  have HV0 : Hid (V = shV log at2 zs sc x h nx) := hV
  rw [← hV]
  clear hV
  obtain ⟨w1, hw1⟩ : ∃ w1, w1 = ((w.alloc (.cells #[.int .i64 sc, .int .u64 x, .int .i64 h, .int .i64 nx] 29)).alloc (.cells #[.int .i64 0, .int .i64 0, .int .u64 0, .int .i64 0, .slice none 0 0] 28)).alloc (.cells #[.int .i64 0, .int .u64 0, .int .i64 0, .int .i64 0] 29) := ⟨_, rfl⟩
  have hbb : Below w.heap.size w w1 := by rw [hw1]; exact (((Below.refl _ _).alloc (Nat.le_refl _) _).alloc (by simp) _).alloc (by simp; omega) _
  have HB1 : Hid (BxS w.heap.size sc x h nx w1) := by show BxS _ _ _ _ _ _; rw [hw1]; exact bxs_new w sc x h nx
  have HR1 : Hid (RowU w1 a n zs) := hr.kept hbb
  have HW : Hid (_ = _) := hw1
  have hlen : zs.length = n := hr.len
  have hru := lrR_rt hr.rng
  have HS : Hid (∀ (seed h next : Int) (am : Option Addr) (n c : Nat) (bs : List Int) (w : World), U64 seed → Row w am n bs → n ≤ 1000000000000 → Calls Tryz.prog 30 #[tkv seed h next, .slice am n c] w fun e w' => ∃ v, e = .returned v ∧ SgR seed h next bs w.heap.size w' v ∧ Below w.heap.size w w') := HSPEC
  have HZ0 : Hid (n = 0 → (lrR zs).1 = 0) := fun h => lrR_zero (by omega)
  clear hw1 hr HSPEC
  go_enter Tryz.func4, Tryz.ntmps4
  go_wp2_with fail
  rw [← HW.out]
  clear HW
  refine (specLogRoot_any a n c zs _ HR1.out hc hcm).mono ?_
  rintro e w2 ⟨rfl, hb2⟩
  obtain ⟨rt, hrt⟩ : ∃ rt, rt = (lrR zs).1 := ⟨_, rfl⟩
  obtain ⟨ok, hok⟩ : ∃ ok, ok = (lrR zs).2 := ⟨_, rfl⟩
  rw [← hrt] at hru HZ0
  have HV : Hid (V = if ok = true ∧ headP log (n : Int) rt at2 then (if (saV sc x h nx (bodyOf 6 log (n : Int) rt at2)).2.2 = 0 then ⟨log, (n : Int), rt, at2, (saV sc x h nx (bodyOf 6 log (n : Int) rt at2)).1, (saV sc x h nx (bodyOf 6 log (n : Int) rt at2)).2.1, 0⟩ else shBad (saV sc x h nx (bodyOf 6 log (n : Int) rt at2)).2.2) else shBad 31) := by show _ = _; rw [HV0.out]; unfold shV; rw [← hrt, ← hok, hlen]
  have HOK : Hid (ok = true → n ≤ 200) := fun h => by rw [← hlen]; exact lrR_ok (hok ▸ h)
  rw [← hrt, ← hok]
  clear hrt hok HV0
  have HBX : Hid (BxS w.heap.size sc x h nx w2) := HB1.out.kept hb2
  have HBW : Hid (Below w.heap.size w w2) := keepT hbb hb2
  cases ok with
  | false =>
    have HV := (show Hid (V = shBad 31) by show _ = _; rw [HV.out, if_neg (by simp)])
    obtain ⟨r0, r1, r2, r3, r4⟩ := cells5 HBX.out.d
    obtain ⟨f0, f1, f2, f3, f4⟩ := frozen5 HBX.out.d
    obtain ⟨s0, s1, s2, s3⟩ := cells4 HBX.out.r
    obtain ⟨g0, g1, g2, g3⟩ := frozen4 HBX.out.r
    go_wp2
    try simp only [Exit.inBlock, Exit.then]
    obtain ⟨o1, o2, o3, o4⟩ := bxs_out HBX.out HBW.out (.int .i64 0) (.int .i64 0) (.int .u64 0) (.int .i64 0) (.slice none 0 0) (.int .i64 0) (.int .u64 0) (.int .i64 0) (.int .i64 0)
    unfold nine set4 put5 at o1 o2 o3
    exact bodyPost_ret (results_sh rfl _ (w.heap.size + 1) (w.heap.size + 1 + 1) rfl rfl _ rfl _ _ _ _ _ _ _ _ _ _ o1 o2) rfl ⟨none, 0, by rw [HV.out]; rfl, by rw [HV.out]; exact own_none _ _, o3⟩
  | true =>
    have hn := HOK.out rfl
    go_wp2_with fail
    refine (l1Bd_any log 1 1000 _).mono ?_
    rintro e w3 ⟨rfl, hw⟩
    have hw3 := hw.symm
    subst hw3
    by_cases h1 : 1 ≤ log ∧ log ≤ 1000
    case neg =>
      have HV := (show Hid (V = shBad 31) by show _ = _; rw [HV.out, if_neg (fun h => h1 h.2.1.1)])
      rw [decide_eq_false h1]
      clear h1
      obtain ⟨r0, r1, r2, r3, r4⟩ := cells5 HBX.out.d
      obtain ⟨f0, f1, f2, f3, f4⟩ := frozen5 HBX.out.d
      obtain ⟨s0, s1, s2, s3⟩ := cells4 HBX.out.r
      obtain ⟨g0, g1, g2, g3⟩ := frozen4 HBX.out.r
      go_wp2
      try simp only [Exit.inBlock, Exit.then]
      obtain ⟨o1, o2, o3, o4⟩ := bxs_out HBX.out HBW.out (.int .i64 0) (.int .i64 0) (.int .u64 0) (.int .i64 0) (.slice none 0 0) (.int .i64 0) (.int .u64 0) (.int .i64 0) (.int .i64 0)
      unfold nine set4 put5 at o1 o2 o3
      exact bodyPost_ret (results_sh rfl _ (w.heap.size + 1) (w.heap.size + 1 + 1) rfl rfl _ rfl _ _ _ _ _ _ _ _ _ _ o1 o2) rfl ⟨none, 0, by rw [HV.out]; rfl, by rw [HV.out]; exact own_none _ _, o3⟩
    rw [decide_eq_true h1]
    go_wp2_with fail
    refine (l10Tim_any at2 _).mono ?_
    rintro e w3 ⟨rfl, hw⟩
    have hw3 := hw.symm
    subst hw3
    by_cases h2 : timP at2
    case neg =>
      have HV := (show Hid (V = shBad 31) by show _ = _; rw [HV.out, if_neg (fun h => h2 h.2.2)])
      rw [decide_eq_false h2]
      clear h2
      obtain ⟨r0, r1, r2, r3, r4⟩ := cells5 HBX.out.d
      obtain ⟨f0, f1, f2, f3, f4⟩ := frozen5 HBX.out.d
      obtain ⟨s0, s1, s2, s3⟩ := cells4 HBX.out.r
      obtain ⟨g0, g1, g2, g3⟩ := frozen4 HBX.out.r
      go_wp2
      try simp only [Exit.inBlock, Exit.then]
      obtain ⟨o1, o2, o3, o4⟩ := bxs_out HBX.out HBW.out (.int .i64 0) (.int .i64 0) (.int .u64 0) (.int .i64 0) (.slice none 0 0) (.int .i64 0) (.int .u64 0) (.int .i64 0) (.int .i64 0)
      unfold nine set4 put5 at o1 o2 o3
      exact bodyPost_ret (results_sh rfl _ (w.heap.size + 1) (w.heap.size + 1 + 1) rfl rfl _ rfl _ _ _ _ _ _ _ _ _ _ o1 o2) rfl ⟨none, 0, by rw [HV.out]; rfl, by rw [HV.out]; exact own_none _ _, o3⟩
    case pos =>
      rw [decide_eq_true h2]
      have hp : headP log (n : Int) rt at2 := ⟨⟨h1, by omega, by
        by_cases hn0 : n = 0
        · exact .inr (HZ0.out hn0)
        · exact .inl (by omega)⟩, h2⟩
      obtain ⟨w4, hw4⟩ : ∃ w4, w4 = w2.alloc (.cells #[.int .i64 log, .int .i64 (n : Int), .int .u64 rt, .int .i64 at2, .slice none 0 0] 28) := ⟨_, rfl⟩
      have hb3 : Below w2.heap.size w2 w4 := by rw [hw4]; exact (Below.refl _ _).alloc (Nat.le_refl _) _
      have HK4 : Hid (w4.heap[w2.heap.size]? = some (.cells #[.int .i64 log, .int .i64 (n : Int), .int .u64 rt, .int .i64 at2, .slice none 0 0] 28 (0, 0))) := by show _ = _; rw [hw4]; exact heap_alloc_new w2 _
      have HBX := (show Hid (BxS w.heap.size sc x h nx w4) from HBX.out.kept hb3)
      have HBW := (show Hid (Below w.heap.size w w4) from keepT HBW.out hb3)
      have HW4 : Hid (_ = _) := hw4
      clear hw4 h1 h2
      obtain ⟨bd, hbd⟩ : ∃ bd, bd = bodyOf 6 log (n : Int) rt at2 := ⟨_, rfl⟩
      obtain ⟨hE, hEl⟩ := bodyOf_enc 6 log (n : Int) rt at2 (by decide) (by decide)
      rw [← hbd] at hE hEl
      obtain ⟨sg, hsg⟩ : ∃ sg, sg = (saV sc x h nx bd).1 := ⟨_, rfl⟩
      obtain ⟨t, ht⟩ : ∃ t, t = (saV sc x h nx bd).2.1 := ⟨_, rfl⟩
      obtain ⟨cd, hcd⟩ : ∃ cd, cd = (saV sc x h nx bd).2.2 := ⟨_, rfl⟩
      have HV := (show Hid (V = if cd = 0 then ⟨log, (n : Int), rt, at2, sg, t, 0⟩ else shBad cd) by show _ = _; rw [HV.out, if_pos ⟨by trivial, hp⟩, ← hbd, ← hsg, ← ht, ← hcd])
      have HSA : Hid (∀ (am : Option Addr) (c : Nat) (w : World), Row w am bd.length bd → (am = none → c = 0) → Calls Tryz.prog 17 #[.agg #[.int .i64 sc, .int .u64 x, .int .i64 h, .int .i64 nx], .slice am bd.length c] w fun e w' => ∃ a cap, e = .returned (.tuple #[.slice a sg.length cap, .agg #[.int .i64 t.1, .int .u64 t.2.1, .int .i64 t.2.2.1, .int .i64 t.2.2.2], .int .i64 cd]) ∧ Own w.heap.size w' a sg.length cap sg ∧ Below w.heap.size w w') := by
        intro am c w' h1 h2
        have := specSignAny_walk HS.out sc x h nx am bd.length c bd w' hx h1 (by omega) h2
        rw [← hsg, ← ht, ← hcd] at this
        exact this
      have HHB : Hid (∀ w, Calls Tryz.prog 18 #[.int .i64 6, .int .i64 log, .int .i64 (n : Int), .int .u64 rt, .int .i64 at2] w fun e w' => ∃ a' c', e = .returned (.slice a' bd.length c') ∧ Own w.heap.size w' a' bd.length c' bd ∧ Below w.heap.size w w') := fun w' => l16Body_any 6 log (n : Int) rt at2 bd w' hru hE
      clear hbd hsg ht hcd hE hEl hp
      have HXD : Hid (∀ W, Below w4.heap.size w4 W → (W.cell? ⟨w.heap.size, 0, none⟩ = some (.int .i64 sc) ∧ W.cell? ⟨w.heap.size, 1, none⟩ = some (.int .u64 x) ∧ W.cell? ⟨w.heap.size, 2, none⟩ = some (.int .i64 h) ∧ W.cell? ⟨w.heap.size, 3, none⟩ = some (.int .i64 nx)) ∧ (W.cell? ⟨w2.heap.size, 0, none⟩ = some (.int .i64 log) ∧ W.cell? ⟨w2.heap.size, 1, none⟩ = some (.int .i64 (n : Int)) ∧ W.cell? ⟨w2.heap.size, 2, none⟩ = some (.int .u64 rt) ∧ W.cell? ⟨w2.heap.size, 3, none⟩ = some (.int .i64 at2) ∧ W.cell? ⟨w2.heap.size, 4, none⟩ = some (.slice none 0 0))) := by
        intro W hW
        have hs := (hW.block _ (Array.getElem?_eq_some_iff.1 HBX.out.s).1).trans HBX.out.s
        have hh := (hW.block _ (Array.getElem?_eq_some_iff.1 HK4.out).1).trans HK4.out
        exact ⟨cells4 hs, cells5 hh⟩
      go_upto_region 5 with fail
      rw [← HW4.out]
      clear HW4
      have hcur : Below w4.heap.size w4 w4.drew := (Below.refl _ _).drew
      have SS0 := HXD.out _ hcur
      have SA0 := HXD.out (w4.drew.alloc (.cells #[.int .i64 0, .int .u64 0, .int .i64 0, .int .i64 0] 29)) (hcur.alloc hcur.size _)
      go_cut [14, 15, 16] (fun u v k wx => Hid (BoxSg sg t cd w4 u v k wx))
      case first =>
        go_region_held3 (fun W => (W.cell? ⟨w.heap.size, 0, none⟩ = some (.int .i64 sc) ∧ W.cell? ⟨w.heap.size, 1, none⟩ = some (.int .u64 x) ∧ W.cell? ⟨w.heap.size, 2, none⟩ = some (.int .i64 h) ∧ W.cell? ⟨w.heap.size, 3, none⟩ = some (.int .i64 nx)) ∧ (W.cell? ⟨w2.heap.size, 0, none⟩ = some (.int .i64 log) ∧ W.cell? ⟨w2.heap.size, 1, none⟩ = some (.int .i64 (n : Int)) ∧ W.cell? ⟨w2.heap.size, 2, none⟩ = some (.int .u64 rt) ∧ W.cell? ⟨w2.heap.size, 3, none⟩ = some (.int .i64 at2) ∧ W.cell? ⟨w2.heap.size, 4, none⟩ = some (.slice none 0 0))) (first | assumption | exact SS0 | exact SA0 | exact SS1 | exact SA1 | exact SS2 | exact SA2 | exact SL2 | exact SE2)
          (first
            | (go_at_call 18; first
                | ((with_reducible refine (HHB.out w4.drew).mono ?_); rintro e w5 ⟨a5, c5, rfl, ho5, hb5⟩; have B5 : Below w4.heap.size w4 w5 := keepT hcur hb5; have SS1 := HXD.out _ B5; have SA1 := HXD.out (w5.alloc (.cells #[.int .i64 0, .int .u64 0, .int .i64 0, .int .i64 0] 29)) (B5.alloc B5.size _); have R5 : Hid (Row w5 a5 bd.length bd) := ho5.toRow; have hn5 : a5 = none → c5 = 0 := ho5.nil; clear ho5)
                | ((with_reducible refine (HHB.out _).mono ?_); rintro e w5 ⟨a5, c5, rfl, ho5, hb5⟩; have B5 : Below w4.heap.size w4 w5 := keepT (hcur.alloc hcur.size _) hb5; have SS1 := HXD.out _ B5; have R5 : Hid (Row w5 a5 bd.length bd) := ho5.toRow; have hn5 : a5 = none → c5 = 0 := ho5.nil; have HY5 : Hid (Zs w4 w5 w4.heap.size) := (zs_new (w4 := w4) (w := w4.drew) (Nat.le_refl _)).kept hb5; clear ho5))
            | (go_at_call 17; first
                | ((with_reducible refine (HSA.out a5 c5 w5 R5.out hn5).mono ?_); rintro e w6 ⟨a6, c6, rfl, ho6, hb6⟩; have B6 : Below w4.heap.size w4 w6 := keepT B5 hb6; have SS2 := HXD.out _ B6; have SA2 := HXD.out (w6.alloc (.cells #[.int .i64 0, .int .u64 0, .int .i64 0, .int .i64 0] 29)) (B6.alloc B6.size _); have FL := boxsg_late (t := t) (cd := cd) ho6 B5 hb6; have SL2 := HXD.out _ (boxsg_below FL); (first | (have FE := boxsg_early (t := t) (cd := cd) ho6 B5 hb6 HY5.out; have SE2 := HXD.out _ (boxsg_below FE); obtain ⟨k0, k1, k2, k3⟩ := cells4 (HY5.out.kept hb6).1; obtain ⟨l0, l1, l2, l3⟩ := frozen4 (HY5.out.kept hb6).1) | skip))
                | ((with_reducible refine (HSA.out a5 c5 (w5.alloc (.cells #[.int .i64 0, .int .u64 0, .int .i64 0, .int .i64 0] 29)) (R5.out.kept ((Below.refl _ _).alloc (Nat.le_refl _) _)) hn5).mono ?_); rintro e w6 ⟨a6, c6, rfl, ho6, hb6⟩; have BQ : Below w4.heap.size w4 (w5.alloc (.cells #[.int .i64 0, .int .u64 0, .int .i64 0, .int .i64 0] 29)) := B5.alloc B5.size _; have B6 : Below w4.heap.size w4 w6 := keepT BQ hb6; have SS2 := HXD.out _ B6; have hz : Zs w4 (w5.alloc (.cells #[.int .i64 0, .int .u64 0, .int .i64 0, .int .i64 0] 29)) w5.heap.size := zs_new B5.size; have FE := boxsg_early (t := t) (cd := cd) ho6 BQ hb6 hz; have SE2 := HXD.out _ (boxsg_below FE); obtain ⟨k0, k1, k2, k3⟩ := cells4 (hz.kept hb6).1; obtain ⟨l0, l1, l2, l3⟩ := frozen4 (hz.kept hb6).1)))
        all_goals (
          go_wp2_with fail
          go_meet
          first
          | exact FL
          | exact FE)
      case rest =>
        obtain ⟨g, ag, cg, rfl, rfl, rfl, hg, hO, hgl, hB⟩ := hcut
        have HBX := (show Hid (BxS w.heap.size sc x h nx wc) from HBX.out.kept hB)
        have HBW := (show Hid (Below w.heap.size w wc) from keepT HBW.out hB)
        have HK5 : Hid (wc.heap[w2.heap.size]? = some (.cells #[.int .i64 log, .int .i64 (n : Int), .int .u64 rt, .int .i64 at2, .slice none 0 0] 28 (0, 0))) := (hB.block _ (Array.getElem?_eq_some_iff.1 HK4.out).1).trans HK4.out
        have HG : Hid (wc.heap[g]? = some (.cells #[.int .i64 t.1, .int .u64 t.2.1, .int .i64 t.2.2.1, .int .i64 t.2.2.2] 29 (0, 0))) := hg
        have HO : Hid (Own w4.heap.size wc ag sg.length cg sg) := hO
        clear SS0 SA0 hcur hg hO
        by_cases hc0 : cd = 0
        case neg =>
          have HV := (show Hid (V = shBad cd) by show _ = _; rw [HV.out, if_neg hc0])
          have z1 : (cd != 0) = true := by simp [hc0]
          clear hc0
          obtain ⟨r0, r1, r2, r3, r4⟩ := cells5 HBX.out.d
          obtain ⟨f0, f1, f2, f3, f4⟩ := frozen5 HBX.out.d
          obtain ⟨s0, s1, s2, s3⟩ := cells4 HBX.out.r
          obtain ⟨g0, g1, g2, g3⟩ := frozen4 HBX.out.r
          go_wp2
          try simp only [Exit.inBlock, Exit.then]
          obtain ⟨o1, o2, o3, o4⟩ := bxs_out HBX.out HBW.out (.int .i64 0) (.int .i64 0) (.int .u64 0) (.int .i64 0) (.slice none 0 0) (.int .i64 0) (.int .u64 0) (.int .i64 0) (.int .i64 0)
          unfold nine set4 put5 at o1 o2 o3
          exact bodyPost_ret (results_sh rfl _ (w.heap.size + 1) (w.heap.size + 1 + 1) rfl rfl _ rfl _ _ _ _ _ _ _ _ _ _ o1 o2) rfl ⟨none, 0, by rw [HV.out]; rfl, by rw [HV.out]; exact own_none _ _, o3⟩
        case pos =>
          have HV := (show Hid (V = ⟨log, (n : Int), rt, at2, sg, t, 0⟩) by show _ = _; rw [HV.out, if_pos hc0])
          subst hc0
          obtain ⟨w7, hw7⟩ : ∃ w7, w7 = wc.setCell ⟨w2.heap.size, 4, none⟩ (.slice ag sg.length cg) := ⟨_, rfl⟩
          have ht7 : Touch w2.heap.size (w2.heap.size + 1) wc w7 := by rw [hw7]; exact touch_set1 wc _ 4 _
          have hs1 : w.heap.size + 1 + 1 < w2.heap.size := Nat.lt_of_lt_of_le (Array.getElem?_eq_some_iff.1 HB1.out.r).1 hb2.size
          have hs2 : w2.heap.size < w4.heap.size := (Array.getElem?_eq_some_iff.1 HK4.out).1
          have hs3 := hB.size
          have HK7 : Hid (w7.heap[w2.heap.size]? = some (.cells #[.int .i64 log, .int .i64 (n : Int), .int .u64 rt, .int .i64 at2, .slice ag sg.length cg] 28 (0, 0))) := by show _ = _; rw [hw7]; exact heap_setCell_same _ _ 4 _ _ _ HK5.out
          have HB7 : Hid (BxS w.heap.size sc x h nx w7) := ⟨(ht7.block _ (by omega) (.inl (by omega))).trans HBX.out.s, (ht7.block _ (by omega) (.inl (by omega))).trans HBX.out.d, (ht7.block _ (by omega) (.inl (by omega))).trans HBX.out.r⟩
          have HG7 : Hid (w7.heap[g]? = some (.cells #[.int .i64 t.1, .int .u64 t.2.1, .int .i64 t.2.2.1, .int .i64 t.2.2.2] 29 (0, 0))) := (ht7.block _ (Array.getElem?_eq_some_iff.1 HG.out).1 (.inr (by omega))).trans HG.out
          have HO7 : Hid (Own w4.heap.size w7 ag sg.length cg sg) := HO.out.touch5 ht7 (by omega)
          have HBW7 : Hid (Below w.heap.size w w7) := HBW.out.trans (ht7.below (by omega) (by omega))
          have HW7 : Hid (_ = _) := hw7
          have p4 := (cells5 HK5.out).2.2.2.2
          have q4 := (frozen5 HK5.out).2.2.2.2
          clear hw7
          go_upto_region 9 with fail
          rw [← HW7.out]
          clear HW7 p4 q4
          obtain ⟨a0, a1, a2, a3, a4⟩ := cells5 HK7.out
          obtain ⟨b0, b1, b2, b3⟩ := cells4 HG7.out
          obtain ⟨r0, r1, r2, r3, r4⟩ := cells5 HB7.out.d
          obtain ⟨f0, f1, f2, f3, f4⟩ := frozen5 HB7.out.d
          obtain ⟨s0, s1, s2, s3⟩ := cells4 HB7.out.r
          obtain ⟨g0, g1, g2, g3⟩ := frozen4 HB7.out.r
          have ne1 : (g : Nat) ≠ w.heap.size + 1 := by omega
          have ne2 : w2.heap.size ≠ w.heap.size + 1 := by omega
          go_region
          all_goals
            go_wp2
            try simp only [Exit.inBlock, Exit.then]
            obtain ⟨o1, o2, o3, o4⟩ := bxs_out HB7.out HBW7.out (.int .i64 log) (.int .i64 (n : Int)) (.int .u64 rt) (.int .i64 at2) (.slice ag sg.length cg) (.int .i64 t.1) (.int .u64 t.2.1) (.int .i64 t.2.2.1) (.int .i64 t.2.2.2)
            unfold nine set4 put5 at o1 o2 o3
            exact bodyPost_ret (results_sh rfl _ (w.heap.size + 1) (w.heap.size + 1 + 1) rfl rfl _ rfl _ _ _ _ _ _ _ _ _ _ (by rw [heap_drew]; exact o1) (by rw [heap_drew]; exact o2)) rfl ⟨ag, cg, by rw [HV.out]; rfl, by rw [HV.out]; exact ((HO7.out.touch5 o4 (by omega)).kept ((Below.refl _ _).drew)).mono (by omega), o3.drew⟩

end Go.Proofs.YtdahihomjpiiaaaGreat

namespace Go.Proofs.YtdahihomjpiiaaaGreat
open Go.RowKit Go.Sort

set_option maxRecDepth 10000 in
set_option maxHeartbeats 2000000 in
theorem eqHead_same (log sz root at2 : Int) (a b : Option Addr) (n ca cb : Nat) (bs : List Int) (w : World) (h : Row w a n bs) (h2 : Row w b n bs) (hn : n ≤ maxLen) :
    Calls Tryz.prog 8 #[.agg #[.int .i64 log, .int .i64 sz, .int .u64 root, .int .i64 at2, .slice a n ca], .agg #[.int .i64 log, .int .i64 sz, .int .u64 root, .int .i64 at2, .slice b n cb]] w fun e w' => e = .returned (.bool true) ∧ Below w.heap.size w w' := by
  obtain ⟨w1, hw1⟩ : ∃ w1, w1 = (w.alloc (.cells #[.int .i64 log, .int .i64 sz, .int .u64 root, .int .i64 at2, .slice a n ca] 28)).alloc (.cells #[.int .i64 log, .int .i64 sz, .int .u64 root, .int .i64 at2, .slice b n cb] 28) := ⟨_, rfl⟩
  have hbb : Below w.heap.size w w1 := by rw [hw1]; exact ((Below.refl _ _).alloc (Nat.le_refl _) _).alloc (by simp) _
  have HA : Hid (Row w1 a n bs) := h.kept hbb
  have HB : Hid (Row w1 b n bs) := h2.kept hbb
  have hsz : w1.heap.size = w.heap.size + 2 := by rw [hw1]; simp
  have s1 : (w.alloc (.cells #[.int .i64 log, .int .i64 sz, .int .u64 root, .int .i64 at2, .slice a n ca] 28)).heap.size = w.heap.size + 1 := by simp
  have B0 : w1.heap[w.heap.size]? = some (.cells #[.int .i64 log, .int .i64 sz, .int .u64 root, .int .i64 at2, .slice a n ca] 28 (0, 0)) := by rw [hw1]; exact (alloc_oldT _ _ _ (by simp)).trans (heap_alloc_new w _)
  have B1 : w1.heap[w.heap.size + 1]? = some (.cells #[.int .i64 log, .int .i64 sz, .int .u64 root, .int .i64 at2, .slice b n cb] 28 (0, 0)) := by rw [hw1, ← s1]; exact heap_alloc_new _ _
  have x0 : w1.cell? ⟨w.heap.size, 0, none⟩ = some (.int .i64 log) := (cell_of_row _ _ 0 _ 28 (0, 0) B0).trans rfl
  have y0 : w1.cell? ⟨w.heap.size + 1, 0, none⟩ = some (.int .i64 log) := (cell_of_row _ _ 0 _ 28 (0, 0) B1).trans rfl
  have x1 : w1.cell? ⟨w.heap.size, 1, none⟩ = some (.int .i64 sz) := (cell_of_row _ _ 1 _ 28 (0, 0) B0).trans rfl
  have y1 : w1.cell? ⟨w.heap.size + 1, 1, none⟩ = some (.int .i64 sz) := (cell_of_row _ _ 1 _ 28 (0, 0) B1).trans rfl
  have x2 : w1.cell? ⟨w.heap.size, 2, none⟩ = some (.int .u64 root) := (cell_of_row _ _ 2 _ 28 (0, 0) B0).trans rfl
  have y2 : w1.cell? ⟨w.heap.size + 1, 2, none⟩ = some (.int .u64 root) := (cell_of_row _ _ 2 _ 28 (0, 0) B1).trans rfl
  have x3 : w1.cell? ⟨w.heap.size, 3, none⟩ = some (.int .i64 at2) := (cell_of_row _ _ 3 _ 28 (0, 0) B0).trans rfl
  have y3 : w1.cell? ⟨w.heap.size + 1, 3, none⟩ = some (.int .i64 at2) := (cell_of_row _ _ 3 _ 28 (0, 0) B1).trans rfl
  have x4 : w1.cell? ⟨w.heap.size, 4, none⟩ = some (.slice a n ca) := (cell_of_row _ _ 4 _ 28 (0, 0) B0).trans rfl
  have y4 : w1.cell? ⟨w.heap.size + 1, 4, none⟩ = some (.slice b n cb) := (cell_of_row _ _ 4 _ 28 (0, 0) B1).trans rfl
  have z1 : (log != log) = false := by simp
  have z2 : (sz != sz) = false := by simp
  have z3 : (root != root) = false := by simp
  have z4 : (at2 != at2) = false := by simp
  have HW : Hid (_ = _) := hw1
  clear hw1 s1 B0 B1 h h2
  go_enter Tryz.func8, Tryz.ntmps8
  go_upto_region 1 with fail
  rw [← HW.out]
  clear HW
  go_wp2_with fail
  refine (eqByteS_any a b n n ca cb bs bs _ HA.out HB.out hn hn).mono ?_
  rintro e w2 ⟨rfl, hb2⟩
  rw [decide_eq_true (rfl : bs = bs)]
  go_wp2
  go_ret
  exact ⟨rfl, keepT hbb hb2⟩

set_option maxRecDepth 10000 in
set_option maxHeartbeats 2000000 in
theorem markHead_any (B lo hi : Nat) (lg sz rt at2 : Int) (a : Option Addr) (n cap : Nat) (k : Int) (bs : List Int) (w : World) (h : Own B w a n cap bs) (hn : n ≤ 1000000000) (hk0 : 0 ≤ k) (hk : k ≤ 1000000000) (hin : ∀ j, (Value.slice a n cap).ownBlock = some j → lo ≤ j ∧ j < hi) :
    Calls Tryz.prog 12 #[.agg #[.int .i64 lg, .int .i64 sz, .int .u64 rt, .int .i64 at2, .slice a n cap], .int .i64 k] w fun e w' => e = .returned (.int .i64 (k + n)) ∧ Own B w' a n cap (marks k.toNat n) ∧ Touch lo hi w w' := by
  obtain ⟨w1, hw1⟩ : ∃ w1, w1 = w.alloc (.cells #[.int .i64 lg, .int .i64 sz, .int .u64 rt, .int .i64 at2, .slice a n cap] 28) := ⟨_, rfl⟩
  have hb : Below w.heap.size w w1 := by rw [hw1]; exact (Below.refl _ _).alloc (Nat.le_refl _) _
  have hk1 : w1.heap[w.heap.size]? = some (.cells #[.int .i64 lg, .int .i64 sz, .int .u64 rt, .int .i64 at2, .slice a n cap] 28 (0, 0)) := by rw [hw1]; exact heap_alloc_new w _
  have HO : Hid (Own B w1 a n cap bs) := h.kept hb
  have p4 := (cells5 hk1).2.2.2.2
  have HW : Hid (_ = _) := hw1
  have HIN : Hid (∀ j, (Value.slice a n cap).ownBlock = some j → lo ≤ j ∧ j < hi) := hin
  clear hw1 h hk1 hin
  go_enter Tryz.func12, Tryz.ntmps12
  go_upto_region 1 with fail
  rw [← HW.out]
  clear HW
  go_wp2_with fail
  refine (markByteS_int B a n cap k bs _ HO.out hn hk0 hk).mono ?_
  rintro e w2 ⟨rfl, ho2, hg2⟩
  have HO2 : Hid (Own B w2 a n cap (marks k.toNat n)) := ho2
  have HT : Hid (Touch lo hi w w2) := (Touch.of_below hb).trans (touch_grownS hg2 HIN.out)
  clear ho2 hg2 p4
  go_wp2
  go_ret
  exact ⟨rfl, HO2.out, HT.out⟩

set_option maxRecDepth 10000 in
set_option maxHeartbeats 2000000 in
theorem heldHead_any (lg sz rt at2 : Int) (a : Option Addr) (n cap : Nat) (k : Int) (w : World) (h : Row w a n (marks k.toNat n)) (hn : n ≤ 1000000000) (hk0 : 0 ≤ k) (hk : k ≤ 1000000000) :
    Calls Tryz.prog 13 #[.agg #[.int .i64 lg, .int .i64 sz, .int .u64 rt, .int .i64 at2, .slice a n cap], .int .i64 k] w fun e w' => e = .returned (.int .i64 (k + n)) ∧ Below w.heap.size w w' := by
  obtain ⟨w1, hw1⟩ : ∃ w1, w1 = w.alloc (.cells #[.int .i64 lg, .int .i64 sz, .int .u64 rt, .int .i64 at2, .slice a n cap] 28) := ⟨_, rfl⟩
  have hb : Below w.heap.size w w1 := by rw [hw1]; exact (Below.refl _ _).alloc (Nat.le_refl _) _
  have hk1 : w1.heap[w.heap.size]? = some (.cells #[.int .i64 lg, .int .i64 sz, .int .u64 rt, .int .i64 at2, .slice a n cap] 28 (0, 0)) := by rw [hw1]; exact heap_alloc_new w _
  have HO : Hid (Row w1 a n (marks k.toNat n)) := h.kept hb
  have p4 := (cells5 hk1).2.2.2.2
  have HW : Hid (_ = _) := hw1
  have hz : ¬ (k + (n : Int) < 0) := by omega
  clear hw1 h hk1
  go_enter Tryz.func13, Tryz.ntmps13
  go_upto_region 1 with fail
  rw [← HW.out]
  clear HW
  go_wp2_with fail
  refine (heldByteS_int a n cap k _ HO.out hn hk0 hk).mono ?_
  rintro e w2 ⟨rfl, hw2⟩
  subst hw2
  clear p4
  go_wp2
  go_ret
  exact ⟨rfl, hb⟩

end Go.Proofs.YtdahihomjpiiaaaGreat

