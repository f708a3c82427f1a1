import Derived.Test.YtdahihomjpiiaaaGreatMSh
import Derived.Test.YtdahihomjpiiaaaGreatMQs
import Derived.Test.YtdahihomjpiiaaaGreatTouch
import Derived.Laws.Rows
import Derived.Laws.Tables
import Derived.RegionTactic
import Derived.Test.YtdahihomjpiiaaaGreatTS2
namespace Go.Proofs.YtdahihomjpiiaaaGreat
open Go.RowKit Go.Sort

theorem shV_len (log at2 : Int) (zs : List Int) (sc x h nx : Int) : (shV log at2 zs sc x h nx).sg.length ≤ 1000 := by
  unfold shV
  split
  · split
    · exact saV_len _ _ _ _ _
    · exact Nat.zero_le _
  · exact Nat.zero_le _
/-- A head and a secret in their boxes, and the head's signature. -/
def BoxHS (V : ShV) (B : Nat) (w5 : World) (u v k : Value) (W : World) : Prop := ∃ (gh gs : Nat) (ag : Option Addr) (cg : Nat), u = .pointer (some ⟨gh, 0, none⟩) ∧ v = .pointer (some ⟨gs, 0, none⟩) ∧ k = .int .i64 V.cd ∧ W.heap[gh]? = some (.cells #[.int .i64 V.lg, .int .i64 V.sz, .int .u64 V.rt, .int .i64 V.at2, .slice ag V.sg.length cg] 28 (0, 0)) ∧ W.heap[gs]? = some (.cells #[.int .i64 V.t.1, .int .u64 V.t.2.1, .int .i64 V.t.2.2.1, .int .i64 V.t.2.2.2] 29 (0, 0)) ∧ Own w5.heap.size W ag V.sg.length cg V.sg ∧ B ≤ gh ∧ B ≤ gs ∧ Below w5.heap.size w5 W
/-- The law's boxes. -/
structure Sxh (K gh gs ih is : Nat) (sc x h nx : Int) (V : ShV) (aw : Option Addr) (cw : Nat) (ag : Option Addr) (cg : Nat) (W : World) : Prop where
  k : W.heap[K]? = some (.cells #[.int .i64 sc, .int .u64 x, .int .i64 h, .int .i64 nx] 25 (0, 0))
  wh : W.heap[gh]? = some (.cells #[.int .i64 V.lg, .int .i64 V.sz, .int .u64 V.rt, .int .i64 V.at2, .slice aw V.sg.length cw] 28 (0, 0))
  ws : W.heap[gs]? = some (.cells #[.int .i64 V.t.1, .int .u64 V.t.2.1, .int .i64 V.t.2.2.1, .int .i64 V.t.2.2.2] 29 (0, 0))
  gh' : W.heap[ih]? = some (.cells #[.int .i64 V.lg, .int .i64 V.sz, .int .u64 V.rt, .int .i64 V.at2, .slice ag V.sg.length cg] 28 (0, 0))
  gs' : W.heap[is]? = some (.cells #[.int .i64 V.t.1, .int .u64 V.t.2.1, .int .i64 V.t.2.2.1, .int .i64 V.t.2.2.2] 29 (0, 0))
theorem Sxh.kept {K gh gs ih is : Nat} {sc x h nx : Int} {V : ShV} {aw : Option Addr} {cw : Nat} {ag : Option Addr} {cg : Nat} {W W' : World} (b : Sxh K gh gs ih is sc x h nx V aw cw ag cg W) (hb : Below W.heap.size W W') : Sxh K gh gs ih is sc x h nx V aw cw ag cg W' :=
  ⟨(hb.block _ (Array.getElem?_eq_some_iff.1 b.k).1).trans b.k, (hb.block _ (Array.getElem?_eq_some_iff.1 b.wh).1).trans b.wh, (hb.block _ (Array.getElem?_eq_some_iff.1 b.ws).1).trans b.ws, (hb.block _ (Array.getElem?_eq_some_iff.1 b.gh').1).trans b.gh', (hb.block _ (Array.getElem?_eq_some_iff.1 b.gs').1).trans b.gs'⟩
theorem Sxh.touch {K gh gs ih is : Nat} {sc x h nx : Int} {V : ShV} {aw : Option Addr} {cw : Nat} {ag : Option Addr} {cg : Nat} {W W' : World} {lo hi : Nat} (b : Sxh K gh gs ih is sc x h nx V aw cw ag cg W) (ht : Touch lo hi W W') (h1 : K < lo ∨ hi ≤ K) (h2 : gh < lo ∨ hi ≤ gh) (h3 : gs < lo ∨ hi ≤ gs) (h4 : ih < lo ∨ hi ≤ ih) (h5 : is < lo ∨ hi ≤ is) : Sxh K gh gs ih is sc x h nx V aw cw ag cg W' :=
  ⟨(ht.block _ (Array.getElem?_eq_some_iff.1 b.k).1 h1).trans b.k, (ht.block _ (Array.getElem?_eq_some_iff.1 b.wh).1 h2).trans b.wh, (ht.block _ (Array.getElem?_eq_some_iff.1 b.ws).1 h3).trans b.ws, (ht.block _ (Array.getElem?_eq_some_iff.1 b.gh').1 h4).trans b.gh', (ht.block _ (Array.getElem?_eq_some_iff.1 b.gs').1 h5).trans b.gs'⟩

theorem toSecret_agg (a b c d : Int) (w : World) : Calls Tryz.prog 6 #[.agg #[.int .i64 a, .int .u64 b, .int .i64 c, .int .i64 d]] w fun e w' => e = .returned (.agg #[.int .i64 a, .int .u64 b, .int .i64 c, .int .i64 d]) ∧ Below w.heap.size w w' := toSecret_any a b c d w
def Zh (B : Nat) (w : World) (g : Nat) : Prop := w.heap[g]? = some (.cells #[.int .i64 0, .int .i64 0, .int .u64 0, .int .i64 0, .slice none 0 0] 28 (0, 0)) ∧ B ≤ g
def Zt (B : Nat) (w : World) (g : Nat) : Prop := w.heap[g]? = some (.cells #[.int .i64 0, .int .u64 0, .int .i64 0, .int .i64 0] 29 (0, 0)) ∧ B ≤ g
theorem Zh.kept {B : Nat} {w w' : World} {g : Nat} (h : Zh B w g) (hb : Below w.heap.size w w') : Zh B w' g := ⟨(hb.block _ (Array.getElem?_eq_some_iff.1 h.1).1).trans h.1, h.2⟩
theorem Zt.kept {B : Nat} {w w' : World} {g : Nat} (h : Zt B w g) (hb : Below w.heap.size w w') : Zt B w' g := ⟨(hb.block _ (Array.getElem?_eq_some_iff.1 h.1).1).trans h.1, h.2⟩
theorem bel_alloc {w0 w : World} {o : Obj} (h : Below w0.heap.size w0 w) : Below w0.heap.size w0 (w.alloc o) := h.alloc h.size o
theorem bel_set {w0 w : World} {g i : Nat} {v : Value} (h : Below w0.heap.size w0 w) (hg : w0.heap.size ≤ g) : Below w0.heap.size w0 (w.setCell ⟨g, i, none⟩ v) := h.setCell hg v
theorem zh_1 {B : Nat} {X W : World} (hb : Below (X.alloc (.cells #[.int .i64 0, .int .i64 0, .int .u64 0, .int .i64 0, .slice none 0 0] 28)).heap.size (X.alloc (.cells #[.int .i64 0, .int .i64 0, .int .u64 0, .int .i64 0, .slice none 0 0] 28)) W) (h : B ≤ X.heap.size) : Zh B W X.heap.size := Zh.kept ⟨heap_alloc_new X _, h⟩ hb
theorem zt_1 {B : Nat} {X W : World} (hb : Below (X.alloc (.cells #[.int .i64 0, .int .u64 0, .int .i64 0, .int .i64 0] 29)).heap.size (X.alloc (.cells #[.int .i64 0, .int .u64 0, .int .i64 0, .int .i64 0] 29)) W) (h : B ≤ X.heap.size) : Zt B W X.heap.size := Zt.kept ⟨heap_alloc_new X _, h⟩ hb
theorem zh_12 {B : Nat} {X W : World} (hb : Below ((X.alloc (.cells #[.int .i64 0, .int .i64 0, .int .u64 0, .int .i64 0, .slice none 0 0] 28)).alloc (.cells #[.int .i64 0, .int .u64 0, .int .i64 0, .int .i64 0] 29)).heap.size ((X.alloc (.cells #[.int .i64 0, .int .i64 0, .int .u64 0, .int .i64 0, .slice none 0 0] 28)).alloc (.cells #[.int .i64 0, .int .u64 0, .int .i64 0, .int .i64 0] 29)) W) (h : B ≤ X.heap.size) : Zh B W X.heap.size := Zh.kept ⟨(two_blocks X _ _).1, h⟩ hb
theorem zt_12 {B : Nat} {X W : World} (hb : Below ((X.alloc (.cells #[.int .i64 0, .int .i64 0, .int .u64 0, .int .i64 0, .slice none 0 0] 28)).alloc (.cells #[.int .i64 0, .int .u64 0, .int .i64 0, .int .i64 0] 29)).heap.size ((X.alloc (.cells #[.int .i64 0, .int .i64 0, .int .u64 0, .int .i64 0, .slice none 0 0] 28)).alloc (.cells #[.int .i64 0, .int .u64 0, .int .i64 0, .int .i64 0] 29)) W) (h : B ≤ X.heap.size) : Zt B W (X.heap.size + 1) := Zt.kept ⟨(two_blocks X _ _).2, by omega⟩ hb
theorem zt_21 {B : Nat} {X W : World} (hb : Below ((X.alloc (.cells #[.int .i64 0, .int .u64 0, .int .i64 0, .int .i64 0] 29)).alloc (.cells #[.int .i64 0, .int .i64 0, .int .u64 0, .int .i64 0, .slice none 0 0] 28)).heap.size ((X.alloc (.cells #[.int .i64 0, .int .u64 0, .int .i64 0, .int .i64 0] 29)).alloc (.cells #[.int .i64 0, .int .i64 0, .int .u64 0, .int .i64 0, .slice none 0 0] 28)) W) (h : B ≤ X.heap.size) : Zt B W X.heap.size := Zt.kept ⟨(two_blocks X _ _).1, h⟩ hb
theorem zh_21 {B : Nat} {X W : World} (hb : Below ((X.alloc (.cells #[.int .i64 0, .int .u64 0, .int .i64 0, .int .i64 0] 29)).alloc (.cells #[.int .i64 0, .int .i64 0, .int .u64 0, .int .i64 0, .slice none 0 0] 28)).heap.size ((X.alloc (.cells #[.int .i64 0, .int .u64 0, .int .i64 0, .int .i64 0] 29)).alloc (.cells #[.int .i64 0, .int .i64 0, .int .u64 0, .int .i64 0, .slice none 0 0] 28)) W) (h : B ≤ X.heap.size) : Zh B W (X.heap.size + 1) := Zh.kept ⟨(two_blocks X _ _).2, by omega⟩ hb

theorem own_newT {B C lo hi : Nat} {w w' : World} {a : Option Addr} {n cap : Nat} {bs : List Int} (h : Own B w a n cap bs) (ht : Touch lo hi w w') (hk : ∀ k, (Value.slice a n cap).ownBlock = some k → k < lo) (hB : C ≤ B) : Own C w' a n cap bs := by
  refine Own.mono (B := B) ⟨⟨h.row.1, ?_⟩, h.byte⟩ hB
  rcases h.row.2 with hv | ⟨g, cap', cur, hv, hb, hg, rest⟩
  · exact .inl hv
  · refine .inr ⟨g, cap', cur, hv, hb, (ht.block g (Array.getElem?_eq_some_iff.1 hg).1 (.inl (hk g ?_))).trans hg, rest⟩
    rw [hv]
    rfl
theorem boxhs_put5 {V : ShV} {ag : Option Addr} {cg : Nat} {W : World} {g t : Nat} {c0 c1 c2 c3 c4 : Value} (h : W.heap[g]? = some (.cells #[c0, c1, c2, c3, c4] t (0, 0))) : (((((W.setCell ⟨g, 0, none⟩ (.int .i64 V.lg)).setCell ⟨g, 1, none⟩ (.int .i64 V.sz)).setCell ⟨g, 2, none⟩ (.int .u64 V.rt)).setCell ⟨g, 3, none⟩ (.int .i64 V.at2)).setCell ⟨g, 4, none⟩ (.slice ag V.sg.length cg)).heap[g]? = some (.cells #[.int .i64 V.lg, .int .i64 V.sz, .int .u64 V.rt, .int .i64 V.at2, .slice ag V.sg.length cg] t (0, 0)) := put5_heap h _ _ _ _ _
theorem ne_boxes {B : Nat} {w : World} {g g' : Nat} (h : Zh B w g) (h2 : Zt B w g') : g ≠ g' := by
  intro e
  subst e
  have := h.1.symm.trans h2.1
  simp at this
theorem boxhs_A {V : ShV} {w1 wq wr : World} {ag : Option Addr} {cg : Nat} (hO : Own wq.heap.size wr ag V.sg.length cg V.sg) (hq : Below w1.heap.size w1 wq) (hr : Below wq.heap.size wq wr) {gh gs : Nat} (zh : Zh w1.heap.size wr gh) (zt : Zt w1.heap.size wr gs) (hgh : gh < wq.heap.size) (hgs : gs < wq.heap.size) :
    BoxHS V w1.heap.size w1 (.pointer (some ⟨gh, 0, none⟩)) (.pointer (some ⟨gs, 0, none⟩)) (.int .i64 V.cd) (((((((((wr.setCell ⟨gh, 0, none⟩ (.int .i64 V.lg)).setCell ⟨gh, 1, none⟩ (.int .i64 V.sz)).setCell ⟨gh, 2, none⟩ (.int .u64 V.rt)).setCell ⟨gh, 3, none⟩ (.int .i64 V.at2)).setCell ⟨gh, 4, none⟩ (.slice ag V.sg.length cg)).setCell ⟨gs, 0, none⟩ (.int .i64 V.t.1)).setCell ⟨gs, 1, none⟩ (.int .u64 V.t.2.1)).setCell ⟨gs, 2, none⟩ (.int .i64 V.t.2.2.1)).setCell ⟨gs, 3, none⟩ (.int .i64 V.t.2.2.2)) := by
  have ne := ne_boxes zh zt
  have hp := boxhs_put5 (V := V) (ag := ag) (cg := cg) zh.1
  have ht5 : Touch gh (gh + 1) wr _ := put5_touch wr gh (.int .i64 V.lg) (.int .i64 V.sz) (.int .u64 V.rt) (.int .i64 V.at2) (.slice ag V.sg.length cg)
  have hl2 := (Array.getElem?_eq_some_iff.1 zt.1).1
  have hs5 := (ht5.block gs hl2 (by omega)).trans zt.1
  have ht4 : Touch gs (gs + 1) (put5 wr gh (.int .i64 V.lg) (.int .i64 V.sz) (.int .u64 V.rt) (.int .i64 V.at2) (.slice ag V.sg.length cg)) _ := set4_touch _ gs (.int .i64 V.t.1) (.int .u64 V.t.2.1) (.int .i64 V.t.2.2.1) (.int .i64 V.t.2.2.2)
  have b1 : Below w1.heap.size w1 (put5 wr gh (.int .i64 V.lg) (.int .i64 V.sz) (.int .u64 V.rt) (.int .i64 V.at2) (.slice ag V.sg.length cg)) := (keepT hq hr).trans (ht5.below zh.2 (keepT hq hr).size)
  exact ⟨gh, gs, ag, cg, rfl, rfl, rfl, (ht4.block gh (Array.getElem?_eq_some_iff.1 hp).1 (by omega)).trans hp, heap_set4 hs5 _ _ _ _, ((hO.touch5 ht5 (by omega)).touch5 ht4 (by omega)).mono hq.size, zh.2, zt.2, b1.trans (ht4.below zt.2 b1.size)⟩
theorem boxhs_B1 {V : ShV} {w1 wq wr : World} {ag : Option Addr} {cg : Nat} (hO : Own wq.heap.size wr ag V.sg.length cg V.sg) (hq : Below w1.heap.size w1 wq) (hr : Below wq.heap.size wq wr) {gh : Nat} (zh : Zh w1.heap.size wr gh) (hgh : gh < wq.heap.size) :
    BoxHS V w1.heap.size w1 (.pointer (some ⟨gh, 0, none⟩)) (.pointer (some ⟨wr.heap.size, 0, none⟩)) (.int .i64 V.cd) ((((((wr.setCell ⟨gh, 0, none⟩ (.int .i64 V.lg)).setCell ⟨gh, 1, none⟩ (.int .i64 V.sz)).setCell ⟨gh, 2, none⟩ (.int .u64 V.rt)).setCell ⟨gh, 3, none⟩ (.int .i64 V.at2)).setCell ⟨gh, 4, none⟩ (.slice ag V.sg.length cg)).alloc (.cells #[.int .i64 V.t.1, .int .u64 V.t.2.1, .int .i64 V.t.2.2.1, .int .i64 V.t.2.2.2] 29)) := by
  have hp := boxhs_put5 (V := V) (ag := ag) (cg := cg) zh.1
  have ht5 : Touch gh (gh + 1) wr _ := put5_touch wr gh (.int .i64 V.lg) (.int .i64 V.sz) (.int .u64 V.rt) (.int .i64 V.at2) (.slice ag V.sg.length cg)
  have b1 : Below w1.heap.size w1 (put5 wr gh (.int .i64 V.lg) (.int .i64 V.sz) (.int .u64 V.rt) (.int .i64 V.at2) (.slice ag V.sg.length cg)) := (keepT hq hr).trans (ht5.below zh.2 (keepT hq hr).size)
  have sz : (put5 wr gh (.int .i64 V.lg) (.int .i64 V.sz) (.int .u64 V.rt) (.int .i64 V.at2) (.slice ag V.sg.length cg)).heap.size = wr.heap.size := by simp [put5]
  have hn := heap_alloc_new (put5 wr gh (.int .i64 V.lg) (.int .i64 V.sz) (.int .u64 V.rt) (.int .i64 V.at2) (.slice ag V.sg.length cg)) (.cells #[.int .i64 V.t.1, .int .u64 V.t.2.1, .int .i64 V.t.2.2.1, .int .i64 V.t.2.2.2] 29)
  rw [sz] at hn
  have hs := (keepT hq hr).size
  exact ⟨gh, wr.heap.size, ag, cg, rfl, rfl, rfl, (alloc_oldT _ _ _ (Array.getElem?_eq_some_iff.1 hp).1).trans hp, hn, ((hO.touch5 ht5 (by omega)).kept ((Below.refl _ _).alloc (Nat.le_refl _) _)).mono hq.size, zh.2, hs, b1.alloc b1.size _⟩
theorem boxhs_B2 {V : ShV} {w1 wq wr : World} {ag : Option Addr} {cg : Nat} (hO : Own wq.heap.size wr ag V.sg.length cg V.sg) (hq : Below w1.heap.size w1 wq) (hr : Below wq.heap.size wq wr) {gh : Nat} (zh : Zh w1.heap.size wr gh) (hgh : gh < wq.heap.size) :
    BoxHS V w1.heap.size w1 (.pointer (some ⟨gh, 0, none⟩)) (.pointer (some ⟨wr.heap.size, 0, none⟩)) (.int .i64 V.cd) ((((((((((wr.alloc (.cells #[.int .i64 0, .int .u64 0, .int .i64 0, .int .i64 0] 29)).setCell ⟨gh, 0, none⟩ (.int .i64 V.lg)).setCell ⟨gh, 1, none⟩ (.int .i64 V.sz)).setCell ⟨gh, 2, none⟩ (.int .u64 V.rt)).setCell ⟨gh, 3, none⟩ (.int .i64 V.at2)).setCell ⟨gh, 4, none⟩ (.slice ag V.sg.length cg)).setCell ⟨wr.heap.size, 0, none⟩ (.int .i64 V.t.1)).setCell ⟨wr.heap.size, 1, none⟩ (.int .u64 V.t.2.1)).setCell ⟨wr.heap.size, 2, none⟩ (.int .i64 V.t.2.2.1)).setCell ⟨wr.heap.size, 3, none⟩ (.int .i64 V.t.2.2.2)) := by
  have hb : Below wr.heap.size wr (wr.alloc (.cells #[.int .i64 0, .int .u64 0, .int .i64 0, .int .i64 0] 29)) := (Below.refl _ _).alloc (Nat.le_refl _) _
  have zt : Zt w1.heap.size (wr.alloc (.cells #[.int .i64 0, .int .u64 0, .int .i64 0, .int .i64 0] 29)) wr.heap.size := ⟨heap_alloc_new wr _, (keepT hq hr).size⟩
  have hl := hr.size
  have ne : gh ≠ wr.heap.size := by omega
  have hp := boxhs_put5 (V := V) (ag := ag) (cg := cg) (zh.kept hb).1
  have ht5 : Touch gh (gh + 1) (wr.alloc (.cells #[.int .i64 0, .int .u64 0, .int .i64 0, .int .i64 0] 29)) _ := put5_touch _ gh (.int .i64 V.lg) (.int .i64 V.sz) (.int .u64 V.rt) (.int .i64 V.at2) (.slice ag V.sg.length cg)
  have hs5 := (ht5.block wr.heap.size (Array.getElem?_eq_some_iff.1 zt.1).1 (by omega)).trans zt.1
  have ht4 : Touch wr.heap.size (wr.heap.size + 1) (put5 (wr.alloc (.cells #[.int .i64 0, .int .u64 0, .int .i64 0, .int .i64 0] 29)) gh (.int .i64 V.lg) (.int .i64 V.sz) (.int .u64 V.rt) (.int .i64 V.at2) (.slice ag V.sg.length cg)) _ := set4_touch _ wr.heap.size (.int .i64 V.t.1) (.int .u64 V.t.2.1) (.int .i64 V.t.2.2.1) (.int .i64 V.t.2.2.2)
  have b0 : Below w1.heap.size w1 (wr.alloc (.cells #[.int .i64 0, .int .u64 0, .int .i64 0, .int .i64 0] 29)) := keepT (keepT hq hr) hb
  have b1 : Below w1.heap.size w1 (put5 (wr.alloc (.cells #[.int .i64 0, .int .u64 0, .int .i64 0, .int .i64 0] 29)) gh (.int .i64 V.lg) (.int .i64 V.sz) (.int .u64 V.rt) (.int .i64 V.at2) (.slice ag V.sg.length cg)) := b0.trans (ht5.below zh.2 b0.size)
  have hin := (hO.kept hb).touch5 ht5 (by omega)
  exact ⟨gh, wr.heap.size, ag, cg, rfl, rfl, rfl, (ht4.block gh (Array.getElem?_eq_some_iff.1 hp).1 (by omega)).trans hp, heap_set4 hs5 _ _ _ _, own_newT hin ht4 (fun k hk => (hO.row.lt k hk).2) hq.size, zh.2, zt.2, b1.trans (ht4.below zt.2 b1.size)⟩
theorem boxhs_C {V : ShV} {w1 wq wr : World} {ag : Option Addr} {cg : Nat} (hO : Own wq.heap.size wr ag V.sg.length cg V.sg) (hq : Below w1.heap.size w1 wq) (hr : Below wq.heap.size wq wr) {gs : Nat} (zt : Zt w1.heap.size wr gs) (hgs : gs < wq.heap.size) :
    BoxHS V w1.heap.size w1 (.pointer (some ⟨wr.heap.size, 0, none⟩)) (.pointer (some ⟨gs, 0, none⟩)) (.int .i64 V.cd) (((((wr.alloc (.cells #[.int .i64 V.lg, .int .i64 V.sz, .int .u64 V.rt, .int .i64 V.at2, .slice ag V.sg.length cg] 28)).setCell ⟨gs, 0, none⟩ (.int .i64 V.t.1)).setCell ⟨gs, 1, none⟩ (.int .u64 V.t.2.1)).setCell ⟨gs, 2, none⟩ (.int .i64 V.t.2.2.1)).setCell ⟨gs, 3, none⟩ (.int .i64 V.t.2.2.2)) := by
  have hb : Below wr.heap.size wr (wr.alloc (.cells #[.int .i64 V.lg, .int .i64 V.sz, .int .u64 V.rt, .int .i64 V.at2, .slice ag V.sg.length cg] 28)) := (Below.refl _ _).alloc (Nat.le_refl _) _
  have hl := hr.size
  have hp : (wr.alloc (.cells #[.int .i64 V.lg, .int .i64 V.sz, .int .u64 V.rt, .int .i64 V.at2, .slice ag V.sg.length cg] 28)).heap[wr.heap.size]? = some (.cells #[.int .i64 V.lg, .int .i64 V.sz, .int .u64 V.rt, .int .i64 V.at2, .slice ag V.sg.length cg] 28 (0, 0)) := heap_alloc_new wr _
  have ht4 : Touch gs (gs + 1) (wr.alloc (.cells #[.int .i64 V.lg, .int .i64 V.sz, .int .u64 V.rt, .int .i64 V.at2, .slice ag V.sg.length cg] 28)) _ := set4_touch _ gs (.int .i64 V.t.1) (.int .u64 V.t.2.1) (.int .i64 V.t.2.2.1) (.int .i64 V.t.2.2.2)
  have b0 : Below w1.heap.size w1 (wr.alloc (.cells #[.int .i64 V.lg, .int .i64 V.sz, .int .u64 V.rt, .int .i64 V.at2, .slice ag V.sg.length cg] 28)) := keepT (keepT hq hr) hb
  exact ⟨wr.heap.size, gs, ag, cg, rfl, rfl, rfl, (ht4.block _ (Array.getElem?_eq_some_iff.1 hp).1 (by omega)).trans hp, heap_set4 (zt.kept hb).1 _ _ _ _, ((hO.kept hb).touch5 ht4 (by omega)).mono hq.size, (keepT hq hr).size, zt.2, b0.trans (ht4.below zt.2 b0.size)⟩
theorem boxhs_D1 {V : ShV} {w1 wq wr : World} {ag : Option Addr} {cg : Nat} (hO : Own wq.heap.size wr ag V.sg.length cg V.sg) (hq : Below w1.heap.size w1 wq) (hr : Below wq.heap.size wq wr) :
    BoxHS V w1.heap.size w1 (.pointer (some ⟨wr.heap.size, 0, none⟩)) (.pointer (some ⟨wr.heap.size + 1, 0, none⟩)) (.int .i64 V.cd) ((wr.alloc (.cells #[.int .i64 V.lg, .int .i64 V.sz, .int .u64 V.rt, .int .i64 V.at2, .slice ag V.sg.length cg] 28)).alloc (.cells #[.int .i64 V.t.1, .int .u64 V.t.2.1, .int .i64 V.t.2.2.1, .int .i64 V.t.2.2.2] 29)) := by
  have hb : Below wr.heap.size wr ((wr.alloc (.cells #[.int .i64 V.lg, .int .i64 V.sz, .int .u64 V.rt, .int .i64 V.at2, .slice ag V.sg.length cg] 28)).alloc (.cells #[.int .i64 V.t.1, .int .u64 V.t.2.1, .int .i64 V.t.2.2.1, .int .i64 V.t.2.2.2] 29)) := two_below _ _ _
  have hs := (keepT hq hr).size
  exact ⟨wr.heap.size, wr.heap.size + 1, ag, cg, rfl, rfl, rfl, (two_blocks wr _ _).1, (two_blocks wr _ _).2, (hO.kept hb).mono hq.size, hs, by omega, keepT (keepT hq hr) hb⟩
theorem boxhs_D2 {V : ShV} {w1 wq wr : World} {ag : Option Addr} {cg : Nat} (hO : Own wq.heap.size wr ag V.sg.length cg V.sg) (hq : Below w1.heap.size w1 wq) (hr : Below wq.heap.size wq wr) :
    BoxHS V w1.heap.size w1 (.pointer (some ⟨wr.heap.size, 0, none⟩)) (.pointer (some ⟨wr.heap.size + 1, 0, none⟩)) (.int .i64 V.cd) (((((((((((wr.alloc (.cells #[.int .i64 0, .int .i64 0, .int .u64 0, .int .i64 0, .slice none 0 0] 28)).alloc (.cells #[.int .i64 0, .int .u64 0, .int .i64 0, .int .i64 0] 29)).setCell ⟨wr.heap.size, 0, none⟩ (.int .i64 V.lg)).setCell ⟨wr.heap.size, 1, none⟩ (.int .i64 V.sz)).setCell ⟨wr.heap.size, 2, none⟩ (.int .u64 V.rt)).setCell ⟨wr.heap.size, 3, none⟩ (.int .i64 V.at2)).setCell ⟨wr.heap.size, 4, none⟩ (.slice ag V.sg.length cg)).setCell ⟨(wr.heap.size + 1), 0, none⟩ (.int .i64 V.t.1)).setCell ⟨(wr.heap.size + 1), 1, none⟩ (.int .u64 V.t.2.1)).setCell ⟨(wr.heap.size + 1), 2, none⟩ (.int .i64 V.t.2.2.1)).setCell ⟨(wr.heap.size + 1), 3, none⟩ (.int .i64 V.t.2.2.2)) := by
  have hb : Below wr.heap.size wr ((wr.alloc (.cells #[.int .i64 0, .int .i64 0, .int .u64 0, .int .i64 0, .slice none 0 0] 28)).alloc (.cells #[.int .i64 0, .int .u64 0, .int .i64 0, .int .i64 0] 29)) := two_below _ _ _
  have hs := (keepT hq hr).size
  have zb := two_blocks wr (.cells #[.int .i64 0, .int .i64 0, .int .u64 0, .int .i64 0, .slice none 0 0] 28) (.cells #[.int .i64 0, .int .u64 0, .int .i64 0, .int .i64 0] 29)
  have hp := boxhs_put5 (V := V) (ag := ag) (cg := cg) zb.1
  have ht5 : Touch wr.heap.size (wr.heap.size + 1) ((wr.alloc (.cells #[.int .i64 0, .int .i64 0, .int .u64 0, .int .i64 0, .slice none 0 0] 28)).alloc (.cells #[.int .i64 0, .int .u64 0, .int .i64 0, .int .i64 0] 29)) _ := put5_touch _ wr.heap.size (.int .i64 V.lg) (.int .i64 V.sz) (.int .u64 V.rt) (.int .i64 V.at2) (.slice ag V.sg.length cg)
  have hs5 := (ht5.block (wr.heap.size + 1) (Array.getElem?_eq_some_iff.1 zb.2).1 (by omega)).trans zb.2
  have ht4 : Touch (wr.heap.size + 1) (wr.heap.size + 1 + 1) (put5 ((wr.alloc (.cells #[.int .i64 0, .int .i64 0, .int .u64 0, .int .i64 0, .slice none 0 0] 28)).alloc (.cells #[.int .i64 0, .int .u64 0, .int .i64 0, .int .i64 0] 29)) wr.heap.size (.int .i64 V.lg) (.int .i64 V.sz) (.int .u64 V.rt) (.int .i64 V.at2) (.slice ag V.sg.length cg)) _ := set4_touch _ (wr.heap.size + 1) (.int .i64 V.t.1) (.int .u64 V.t.2.1) (.int .i64 V.t.2.2.1) (.int .i64 V.t.2.2.2)
  have b0 : Below w1.heap.size w1 ((wr.alloc (.cells #[.int .i64 0, .int .i64 0, .int .u64 0, .int .i64 0, .slice none 0 0] 28)).alloc (.cells #[.int .i64 0, .int .u64 0, .int .i64 0, .int .i64 0] 29)) := keepT (keepT hq hr) hb
  have b1 : Below w1.heap.size w1 (put5 ((wr.alloc (.cells #[.int .i64 0, .int .i64 0, .int .u64 0, .int .i64 0, .slice none 0 0] 28)).alloc (.cells #[.int .i64 0, .int .u64 0, .int .i64 0, .int .i64 0] 29)) wr.heap.size (.int .i64 V.lg) (.int .i64 V.sz) (.int .u64 V.rt) (.int .i64 V.at2) (.slice ag V.sg.length cg)) := b0.trans (ht5.below hs b0.size)
  exact ⟨wr.heap.size, wr.heap.size + 1, ag, cg, rfl, rfl, rfl, (ht4.block _ (Array.getElem?_eq_some_iff.1 hp).1 (by omega)).trans hp, heap_set4 hs5 _ _ _ _, own_newT (own_newT (hO.kept hb) ht5 (fun k hk => (hO.row.lt k hk).2) (Nat.le_refl _)) ht4 (fun k hk => by have := (hO.row.lt k hk).2; omega) hq.size, hs, by omega, b1.trans (ht4.below (by omega) b1.size)⟩
theorem boxhs_D3 {V : ShV} {w1 wq wr : World} {ag : Option Addr} {cg : Nat} (hO : Own wq.heap.size wr ag V.sg.length cg V.sg) (hq : Below w1.heap.size w1 wq) (hr : Below wq.heap.size wq wr) :
    BoxHS V w1.heap.size w1 (.pointer (some ⟨(wr.heap.size + 1), 0, none⟩)) (.pointer (some ⟨wr.heap.size, 0, none⟩)) (.int .i64 V.cd) ((((((wr.alloc (.cells #[.int .i64 0, .int .u64 0, .int .i64 0, .int .i64 0] 29)).alloc (.cells #[.int .i64 V.lg, .int .i64 V.sz, .int .u64 V.rt, .int .i64 V.at2, .slice ag V.sg.length cg] 28)).setCell ⟨wr.heap.size, 0, none⟩ (.int .i64 V.t.1)).setCell ⟨wr.heap.size, 1, none⟩ (.int .u64 V.t.2.1)).setCell ⟨wr.heap.size, 2, none⟩ (.int .i64 V.t.2.2.1)).setCell ⟨wr.heap.size, 3, none⟩ (.int .i64 V.t.2.2.2)) := by
  have hb : Below wr.heap.size wr ((wr.alloc (.cells #[.int .i64 0, .int .u64 0, .int .i64 0, .int .i64 0] 29)).alloc (.cells #[.int .i64 V.lg, .int .i64 V.sz, .int .u64 V.rt, .int .i64 V.at2, .slice ag V.sg.length cg] 28)) := two_below _ _ _
  have hs := (keepT hq hr).size
  have zb := two_blocks wr (.cells #[.int .i64 0, .int .u64 0, .int .i64 0, .int .i64 0] 29) (.cells #[.int .i64 V.lg, .int .i64 V.sz, .int .u64 V.rt, .int .i64 V.at2, .slice ag V.sg.length cg] 28)
  have ht4 : Touch wr.heap.size (wr.heap.size + 1) ((wr.alloc (.cells #[.int .i64 0, .int .u64 0, .int .i64 0, .int .i64 0] 29)).alloc (.cells #[.int .i64 V.lg, .int .i64 V.sz, .int .u64 V.rt, .int .i64 V.at2, .slice ag V.sg.length cg] 28)) _ := set4_touch _ wr.heap.size (.int .i64 V.t.1) (.int .u64 V.t.2.1) (.int .i64 V.t.2.2.1) (.int .i64 V.t.2.2.2)
  have b0 : Below w1.heap.size w1 ((wr.alloc (.cells #[.int .i64 0, .int .u64 0, .int .i64 0, .int .i64 0] 29)).alloc (.cells #[.int .i64 V.lg, .int .i64 V.sz, .int .u64 V.rt, .int .i64 V.at2, .slice ag V.sg.length cg] 28)) := keepT (keepT hq hr) hb
  exact ⟨wr.heap.size + 1, wr.heap.size, ag, cg, rfl, rfl, rfl, (ht4.block _ (Array.getElem?_eq_some_iff.1 zb.2).1 (by omega)).trans zb.2, heap_set4 zb.1 _ _ _ _, own_newT (hO.kept hb) ht4 (fun k hk => (hO.row.lt k hk).2) hq.size, by omega, hs, b0.trans (ht4.below hs b0.size)⟩


end Go.Proofs.YtdahihomjpiiaaaGreat

namespace Go.Proofs.YtdahihomjpiiaaaGreat
open Go.RowKit

/-- What lies in a slot. -/
def aT (a : Act) (t : Nat) : Value := a.tmps.getD t undef
def upd (l : Nat → Bool) (i : Nat) : Nat → Bool := fun k => decide (k = i) || l k
theorem upd_same (l : Nat → Bool) (i : Nat) : upd l i i = true := by simp [upd]
theorem upd_ne {l : Nat → Bool} {i k : Nat} (h : k ≠ i) : upd l i k = l k := by simp [upd, h]
theorem upd_mono {l : Nat → Bool} {i k : Nat} (h : l k = true) : upd l i k = true := by simp [upd, h]
theorem of_upd {l : Nat → Bool} {i k : Nat} (h : upd l i k = false) : l k = false := by
  simp [upd] at h
  exact h.2

/-- All slots but those of D are as they were. -/
structure Fr (D : List Nat) (a0 a : Act) : Prop where
  size : a.tmps.size = a0.tmps.size
  defers : a.defers = a0.defers
  same : ∀ t, t ∉ D → aT a t = aT a0 t
theorem Fr.refl (D : List Nat) (a : Act) : Fr D a a := ⟨rfl, rfl, fun _ _ => rfl⟩
theorem aT_put_ne {a : Act} {d t : Nat} {v : Value} (h : d ≠ t) : aT (a.put (some d) v) t = aT a t := by
  simp [aT, Act.put, Array.getElem?_setIfInBounds_ne h]
theorem aT_put_eq {a : Act} {d : Nat} {v : Value} (h : d < a.tmps.size) : aT (a.put (some d) v) d = v := by
  simp [aT, Act.put, h]
theorem Fr.put {D : List Nat} {a0 a : Act} {d : Nat} (h : Fr D a0 a) (hd : d ∈ D) (v : Value) : Fr D a0 (a.put (some d) v) :=
  ⟨by simp [Act.put, h.size], h.defers, fun t ht => (aT_put_ne (fun e => ht (by rw [← e]; exact hd))).trans (h.same t ht)⟩

def puts (f : Nat → Value) : List Nat → Act → Act
  | [], a => a
  | d :: D, a => puts f D (a.put (some d) (f d))
theorem puts_size (f : Nat → Value) : ∀ (D : List Nat) (a : Act), (puts f D a).tmps.size = a.tmps.size
  | [], _ => rfl
  | d :: D, a => by rw [puts, puts_size f D]; simp [Act.put]
theorem puts_defers (f : Nat → Value) : ∀ (D : List Nat) (a : Act), (puts f D a).defers = a.defers
  | [], _ => rfl
  | d :: D, a => by rw [puts, puts_defers f D]; rfl
theorem puts_at (f : Nat → Value) : ∀ (D : List Nat) (a : Act) (t : Nat), t < a.tmps.size → aT (puts f D a) t = if t ∈ D then f t else aT a t
  | [], _, _, _ => by simp [puts]
  | d :: D, a, t, ht => by
    rw [puts, puts_at f D _ t (by simpa [Act.put] using ht)]
    by_cases h : t ∈ D
    · simp [h]
    · by_cases h2 : t = d
      · subst h2
        simp [h, aT_put_eq ht]
      · simp [h, h2, aT_put_ne (Ne.symm h2)]
theorem act_ext {a b : Act} (hs : a.tmps.size = b.tmps.size) (hd : a.defers = b.defers) (h : ∀ t, t < a.tmps.size → aT a t = aT b t) : a = b := by
  obtain ⟨x, dx⟩ := a
  obtain ⟨y, dy⟩ := b
  simp only at hd hs
  subst hd
  congr 1
  refine Array.ext hs (fun i h1 h2 => ?_)
  have := h i h1
  simpa [aT, h1, h2] using this
/-- A frame of which only the slots of D have turned, written out. -/
theorem Fr.eq {D : List Nat} {a0 a : Act} (h : Fr D a0 a) : a = puts (aT a) D a0 := by
  refine act_ext (h.size.trans (puts_size _ _ _).symm) (h.defers.trans (puts_defers _ _ _).symm) (fun t ht => ?_)
  rw [puts_at _ _ _ _ (h.size ▸ ht)]
  by_cases hd : t ∈ D
  · simp [hd]
  · simp [hd, h.same t hd]

/-- What is known of a region while its operations come up: of each, once it has come up, one fact on its slot and the world, till another one drops it. -/
structure RSpec where
  n : Nat
  slots : List Nat
  fact : Nat → Value → World → Prop
  kills : List (List Nat)
  pres : List (List Nat)
def RSpec.slot (S : RSpec) (k : Nat) : Nat := S.slots.getD k 0
def RSpec.kill (S : RSpec) (k : Nat) : List Nat := S.kills.getD k []
def RSpec.pre (S : RSpec) (k : Nat) : List Nat := S.pres.getD k []
structure RI (S : RSpec) (D : List Nat) (B : Nat) (w0 : World) (a0 : Act) (l : Nat → Bool) (a : Act) (w : World) : Prop where
  fr : Fr D a0 a
  bel : Below B w0 w
  cl : ∀ k, k < S.n → l k = true → ∀ j ∈ S.pre k, l j = true
  fact : ∀ k, k < S.n → l k = true → (∀ j ∈ S.kill k, l j = false) → S.fact k (aT a (S.slot k)) w
def StB (p : Value → World → Prop) : Prop := ∀ v w w', p v w → Below w.heap.size w w' → p v w'
theorem StB.val (q : Value → Prop) : StB (fun v _ => q v) := fun _ _ _ h _ => h
/-- The slot d of the operation i is nobody else's, but of those that wait for i. -/
def RSpec.free (S : RSpec) (i d : Nat) : Bool := (List.range S.n).all fun k => k == i || S.slot k != d || (S.pre k).contains i
theorem RSpec.free_of {S : RSpec} {i d : Nat} (h : S.free i d = true) {k : Nat} (hk : k < S.n) (hne : k ≠ i) (hs : S.slot k = d) : i ∈ S.pre k := by
  have := List.all_eq_true.1 h k (List.mem_range.2 hk)
  simpa [hne, hs] using this
theorem RI.put {S : RSpec} {D : List Nat} {B : Nat} {w0 : World} {a0 : Act} {l : Nat → Bool} {a : Act} {w : World} (h : RI S D B w0 a0 l a w) (i d : Nat) {v : Value} {w' : World} (hpre : S.pre i = [])
    (hd : D.contains d = true) (hs : d < a0.tmps.size) (hsl : S.slot i = d) (hli : l i = false) (hne : S.free i d = true) (hB : B ≤ w0.heap.size)
    (hst : ∀ k, k < S.n → StB (S.fact k)) (hb : Below w.heap.size w w') (hf : S.fact i v w') : RI S D B w0 a0 (upd l i) (a.put (some d) v) w' := by
  refine ⟨h.fr.put (List.contains_iff_mem.1 hd) v, h.bel.trans (hb.mono (Nat.le_trans hB h.bel.size)), fun k hk hl j hj => ?_, fun k hk hl hkill => ?_⟩
  · by_cases e : k = i
    · subst e
      rw [hpre] at hj
      cases hj
    · rw [upd_ne e] at hl
      exact upd_mono (h.cl k hk hl j hj)
  · by_cases e : k = i
    · subst e
      rw [hsl, aT_put_eq (by rw [h.fr.size]; exact hs)]
      exact hf
    · rw [upd_ne e] at hl
      have hsk : S.slot k ≠ d := fun e2 => by
        have := h.cl k hk hl i (S.free_of hne hk e e2)
        rw [hli] at this
        cases this
      rw [aT_put_ne (Ne.symm hsk)]
      exact hst k hk _ _ _ (h.fact k hk hl (fun j hj => of_upd (hkill j hj))) hb
/-- A store: nothing is put; what is not dropped by it is shown to stay. -/
theorem RI.store {S : RSpec} {D : List Nat} {B : Nat} {w0 : World} {a0 : Act} {l : Nat → Bool} {a : Act} {w : World} (h : RI S D B w0 a0 l a w) (i : Nat) {w' : World} (hpre : ∀ j ∈ S.pre i, l j = true)
    (hb : Below B w0 w') (hst : ∀ k, k < S.n → k ≠ i → i ∉ S.kill k → ∀ v, S.fact k v w → S.fact k v w') (hf : S.fact i (aT a (S.slot i)) w') : RI S D B w0 a0 (upd l i) (a.put none undef) w' := by
  refine ⟨h.fr, hb, fun k hk hl j hj => ?_, fun k hk hl hkill => ?_⟩
  · by_cases e : k = i
    · subst e
      exact upd_mono (hpre j hj)
    · rw [upd_ne e] at hl
      exact upd_mono (h.cl k hk hl j hj)
  · by_cases e : k = i
    · subst e
      exact hf
    · rw [upd_ne e] at hl
      refine hst k hk e (fun hm => ?_) _ (h.fact k hk hl (fun j hj => of_upd (hkill j hj)))
      have := hkill i hm
      rw [upd_same] at this
      cases this
/-- The fact of one that has come up, and that nobody drops. -/
theorem RI.got {S : RSpec} {D : List Nat} {B : Nat} {w0 : World} {a0 : Act} {l : Nat → Bool} {a : Act} {w : World} (h : RI S D B w0 a0 l a w) (k : Nat) (hk : k < S.n) (hl : l k = true) (hkill : S.kill k = []) : S.fact k (aT a (S.slot k)) w := h.fact k hk hl (by simp [hkill])
/-- .. and that i alone drops, which has not come up. -/
theorem RI.got1 {S : RSpec} {D : List Nat} {B : Nat} {w0 : World} {a0 : Act} {l : Nat → Bool} {a : Act} {w : World} (h : RI S D B w0 a0 l a w) (k i : Nat) (hk : k < S.n) (hl : l k = true) (hli : l i = false) (hkill : S.kill k = [i]) : S.fact k (aT a (S.slot k)) w := h.fact k hk hl (by simp [hkill, hli])
theorem edge {l : Nat → Bool} {o : Oper} (he : ∀ e ∈ o.after, Region.binds .any e = true → l e.on = true) (j : Nat) (h : (o.after.toList.any fun e => Region.binds .any e && (e.on == j)) = true) : l j = true := by
  obtain ⟨e, hm, h2⟩ := List.any_eq_true.1 h
  simp only [Bool.and_eq_true, beq_iff_eq] at h2
  rw [← h2.2]
  exact he e (Array.mem_toList_iff.1 hm) h2.1
/-- A row of our own is not in a box of another type. -/
theorem ownsRow_box {B e k n g t : Nat} {w w' : World} {v : Value} {xs : List Value} {cs : Array Value} {fr : Nat × Nat} (h : w.ownsRow B e k v n xs) (hg : w.heap[g]? = some (.cells cs t fr)) (hne : t ≠ e) (ht : Touch g (g + 1) w w') : w'.ownsRow B e k v n xs := by
  refine ⟨h.1, ?_⟩
  rcases h.2 with h0 | ⟨g', cap, cur, hv, hb, hh, rest⟩
  · exact .inl h0
  · have : g' ≠ g := fun e2 => by
      subst e2
      rw [hg] at hh
      simp only [Option.some.injEq, Obj.cells.injEq] at hh
      exact hne hh.2.1
    exact .inr ⟨g', cap, cur, hv, hb, (ht.block g' (Array.getElem?_eq_some_iff.1 hh).1 (by omega)).trans hh, rest⟩
theorem box_box {g g' t t' : Nat} {w w' : World} {cs cs' : Array Value} {fr fr' : Nat × Nat} (h : w.heap[g']? = some (.cells cs' t' fr')) (hg : w.heap[g]? = some (.cells cs t fr)) (hne : t ≠ t') (ht : Touch g (g + 1) w w') : w'.heap[g']? = some (.cells cs' t' fr') := by
  have : g' ≠ g := fun e2 => by
    subst e2
    rw [hg] at h
    simp only [Option.some.injEq, Obj.cells.injEq] at h
    exact hne h.2.1
  exact (ht.block g' (Array.getElem?_eq_some_iff.1 h).1 (by omega)).trans h
theorem setRow_touch (w : World) (g : Nat) (cs : Array Value) : Touch g (g + 1) w (w.setRow g cs) :=
  ⟨rfl, rfl, rfl, by simp [World.setRow], fun k hk ho => by
    simp only [World.setRow]
    rw [Array.getElem?_modify, if_neg (by omega)]⟩
theorem below_kept {w w' : World} {g : Nat} {o : Obj} (h : w.heap[g]? = some o) (hb : Below w.heap.size w w') : w'.heap[g]? = some o := (hb.block g (Array.getElem?_eq_some_iff.1 h).1).trans h

section
variable {P : Program} {Q : Exit → Act → World → Prop}
def StepsRI (P : Program) (Q : Exit → Act → World → Prop) (S : RSpec) (D : List Nat) (B : Nat) (w0 : World) (a0 : Act) (i : Nat) (os : List Oper) : Prop :=
  ∀ k o, os[k]? = some o → ∀ (l : Nat → Bool) (a : Act) (w : World), RI S D B w0 a0 l a w → l (i + k) = false → (∀ e ∈ o.after, Region.binds .any e = true → l e.on = true) → ∀ K' : Act → World → Prop, Hid (∀ a w, RI S D B w0 a0 (upd l (i + k)) a w → K' a w) → o.wp P a w K' Q
theorem StepsRI.nil {S : RSpec} {D : List Nat} {B : Nat} {w0 : World} {a0 : Act} {i : Nat} : StepsRI P Q S D B w0 a0 i [] := fun k o h => by simp at h
theorem StepsRI.cons {S : RSpec} {D : List Nat} {B : Nat} {w0 : World} {a0 : Act} {i : Nat} {o : Oper} {os : List Oper}
    (h : ∀ (l : Nat → Bool) (a : Act) (w : World), RI S D B w0 a0 l a w → l i = false → (∀ e ∈ o.after, Region.binds .any e = true → l e.on = true) → ∀ K' : Act → World → Prop, Hid (∀ a w, RI S D B w0 a0 (upd l i) a w → K' a w) → o.wp P a w K' Q)
    (hs : StepsRI P Q S D B w0 a0 (i + 1) os) : StepsRI P Q S D B w0 a0 i (o :: os) := fun k o' hk => by
  cases k with
  | zero =>
    simp only [List.getElem?_cons_zero, Option.some.injEq] at hk
    subst hk
    exact h
  | succ k =>
    simp only [List.getElem?_cons_succ] at hk
    have := hs k o' hk
    rwa [Nat.add_right_comm] at this
/-- Every edge leads back. -/
def edgesBack (ops : Array Oper) : Bool := (List.range ops.size).all fun i => ((ops[i]?).map fun o => o.guard.isNone && o.after.all fun e => !Region.binds .any e || decide (e.on < i)).getD true
theorem edgesBack_of {ops : Array Oper} (h : edgesBack ops = true) {i : Nat} {o : Oper} (ho : ops[i]? = some o) : o.guard = none ∧ ∀ e ∈ o.after, Region.binds .any e = true → e.on < i := by
  have hi : i < ops.size := (Array.getElem?_eq_some_iff.1 ho).1
  have h1 := List.all_eq_true.1 h i (List.mem_range.2 hi)
  rw [ho] at h1
  simp only [Option.map_some, Option.getD_some, Bool.and_eq_true, Option.isNone_iff_eq_none] at h1
  refine ⟨h1.1, fun e he hb => ?_⟩
  obtain ⟨j, hj, rfl⟩ := Array.mem_iff_getElem.1 he
  have := (Array.all_eq_true.1 h1.2) j hj
  simpa [hb] using this
theorem all_listed {ops : Array Oper} {listed : Array Bool} (he : edgesBack ops = true) (hz : listed.size = ops.size) (h : Region.ready .any ops listed = []) : ∀ i, i < ops.size → listed.getD i false = true := by
  intro i
  induction i using Nat.strongRecOn with
  | ind i ih =>
    intro hi
    cases hl : listed.getD i false with
    | true => rfl
    | false =>
      exfalso
      have ho : ops[i]? = some ops[i] := by simp [hi]
      have hm : i ∈ Region.ready .any ops listed := mem_ready.2 ⟨by
        have : i < listed.size := hz ▸ hi
        simp [this] at hl ⊢
        exact hl, _, ho, fun e hee hb => ih _ ((edgesBack_of he ho).2 e hee hb) (Nat.lt_trans ((edgesBack_of he ho).2 e hee hb) hi)⟩
      rw [h] at hm
      cases hm
theorem wpAny_ri {ops : Array Oper} {S : RSpec} {D : List Nat} {B : Nat} {w0 : World} {a0 : Act} (he : edgesBack ops = true) (hs : StepsRI P Q S D B w0 a0 0 ops.toList)
    (hend : ∀ l a w, RI S D B w0 a0 l a w → (∀ k, k < ops.size → l k = true) → Q .normal a w) :
    ∀ (fuel : Nat) (listed : Array Bool) (a : Act) (w : World), listed.size = ops.size → listed.toList.count false ≤ fuel → RI S D B w0 a0 (fun k => listed.getD k false) a w → wpAny P .any ops Q fuel listed a w := by
  intro fuel
  induction fuel with
  | zero =>
    intro listed a w hz hc hI
    have hall : ∀ k, k < ops.size → listed.getD k false = true := fun k hk => by
      have hk' : k < listed.size := hz ▸ hk
      have h0 : listed.toList.count false = 0 := Nat.le_zero.1 hc
      have := List.count_eq_zero.1 h0
      cases hv : listed[k] with
      | true => simp [hk', hv]
      | false => exact absurd (by rw [← hv]; exact Array.mem_toList_iff.2 (Array.getElem_mem hk')) this
    have hr : Region.ready .any ops listed = [] := by
      refine List.eq_nil_iff_forall_not_mem.2 (fun i hi => ?_)
      obtain ⟨h1, o, ho, _⟩ := mem_ready.1 hi
      have hi' : i < ops.size := (Array.getElem?_eq_some_iff.1 ho).1
      have h2 := hall i hi'
      have hi2 : i < listed.size := hz ▸ hi'
      simp [hi2] at h1 h2
      rw [h1] at h2
      cases h2
    exact ⟨hr, hend _ _ _ hI hall⟩
  | succ fuel ih =>
    intro listed a w hz hc hI
    refine ⟨fun hr => hend _ _ _ hI (all_listed he hz hr), fun i hi => ?_⟩
    obtain ⟨h1, o, ho, hed⟩ := mem_ready.1 hi
    have hi' : i < ops.size := (Array.getElem?_eq_some_iff.1 ho).1
    have hi2 : i < listed.size := hz ▸ hi'
    have hf : listed[i] = false := by simpa [hi2] using h1
    refine wpOp_step ho (fun K' hK => ?_)
    have hgd := (edgesBack_of he ho).1
    have hw : Region.wanted o (yielded ops a.tmps) = true := by simp [Region.wanted, hgd]
    rw [if_pos hw]
    refine hs i o (by simpa using ho) _ a w hI (by simp [hi2, hf]) hed K' (fun a' w' hI' => hK a' w' (ih _ a' w' (by simpa using hz) ?_ ?_))
    · have hcs : (listed.setIfInBounds i true).toList.count false + 1 = listed.toList.count false := by
        have hm : 0 < listed.toList.count false := List.count_pos_iff.2 (by rw [← hf]; exact Array.mem_toList_iff.2 (Array.getElem_mem hi2))
        have e1 : (listed.toList[i] == false) = true := by simp [hf]
        have e2 : ¬ ((true == false) = true) := by decide
        rw [Array.toList_setIfInBounds, List.count_set (by simpa using hi2), if_pos e1, if_neg e2]
        omega
      omega
    · have : (fun k => (listed.setIfInBounds i true).getD k false) = upd (fun k => listed.getD k false) (0 + i) := by
        funext k
        by_cases e : k = i
        · subst e
          simp [upd, hi2]
        · simp [upd, e, Array.getElem?_setIfInBounds_ne (Ne.symm e)]
      rw [this]
      exact hI'
/-- **A region whose operations may come up in whatever order: each is stepped once, over what is known of those ahead of it.** -/
theorem wp_region_ri {id : Nat} {ops : Array Oper} {a : Act} {w : World} (S : RSpec) (D : List Nat) (B : Nat) (G : Act → Prop) (hm : P.follows .mixedOrders = true) (hn : S.n = ops.size) (he : edgesBack ops = true) (hG : G a)
    (hs : ∀ a0, G a0 → StepsRI P Q S D B w a0 0 ops.toList)
    (hend : ∀ a' w', Fr D a a' → Below B w w' → (∀ k, k < S.n → S.kill k = [] → S.fact k (aT a' (S.slot k)) w') → Q .normal a' w') : (Code.region id ops true).wp P Q a w := by
  refine wp_region_any hm (wpAny_ri he (hs a hG) (fun l a' w' hI hl => hend a' w' hI.fr hI.bel (fun k hk h0 => hI.fact k hk (hl k (hn ▸ hk)) (by simp [h0]))) ops.size _ a _ (by simp) (by simp) ?_)
  refine ⟨Fr.refl _ _, (Below.refl _ _).drew, fun k hk hl => ?_, fun k hk hl => ?_⟩
  · simp [Array.getElem?_replicate] at hl
    split at hl <;> simp at hl
  · simp [Array.getElem?_replicate] at hl
    split at hl <;> simp at hl
/-- An operation that yields a value. -/
theorem opw_value {o : Oper} {a : Act} {w w' : World} {K : Act → World → Prop} (v : Value) (hr : (execOp a.eval o).run P w = .ok (.value v) w') (h : K (a.put o.dst v) w') : o.wp P a w K Q := by
  unfold Oper.wp
  rw [hr]
  exact h
theorem opw_move {o : Oper} {a : Act} {w : World} {K : Act → World → Prop} (x : Nat) (ho : o.op = .move (.tmp x)) (h : K (a.put o.dst (aT a x)) w) : o.wp P a w K Q :=
  opw_value (aT a x) (by unfold execOp; rw [ho]; rfl) h
theorem opw_assign {o : Oper} {a : Act} {w : World} {K : Act → World → Prop} (x : Nat) (ho : o.op = .assign (.tmp x)) (h : K (a.put o.dst (aT a x)) w) : o.wp P a w K Q :=
  opw_value (aT a x) (by unfold execOp; rw [ho]; rfl) h
theorem opw_extract {o : Oper} {a : Act} {w : World} {K : Act → World → Prop} (x i : Nat) (ho : o.op = .extract (.tmp x) i) (vs : Array Value) (v : Value) (hx : aT a x = .tuple vs) (hv : vs[i]? = some v) (h : K (a.put o.dst v) w) : o.wp P a w K Q := by
  refine opw_value v ?_ h
  have hx' : a.eval (.tmp x) = .tuple vs := hx
  unfold execOp
  simp [ho, hx', Instr.extract, hv]
theorem opw_call {o : Oper} {a : Act} {w : World} {K : Act → World → Prop} (f : FuncId) (ar : Array Operand) (ats : Array TypeId) (fn : Func) (c : Code) (ho : o.op = .call { callee := .value (.func f), args := ar, argTypes := ats })
    (hf : P.funcs[f]? = some fn) (hname : (fn.name == "runtime.NumGoroutine") = false) (hb : fn.body = some c) (args : Array Value) (hargs : ar.map a.eval = args)
    (h : Calls P f args w fun e w' => ∃ v, e = .returned v ∧ K (a.put o.dst v) w') : o.wp P a w K Q := by
  have hn2 : ¬ fn.name = "runtime.NumGoroutine" := by simpa using hname
  have hr : (execOp a.eval o).run P w = .ok (.enter f args) w := by
    unfold execOp
    rw [ho]
    simp [resolve, hargs, Act.eval, Deferred.ofValue, invoke, callFunc, hf, hn2, hb]
  unfold Oper.wp
  rw [hr, Oper.upon_enter]
  refine h.mono fun e w' hh => ?_
  obtain ⟨v, rfl, hk⟩ := hh
  exact hk
theorem ev (a : Act) (t : Nat) : a.eval (.tmp t) = aT a t := rfl
end

end Go.Proofs.YtdahihomjpiiaaaGreat

namespace Go.Proofs.YtdahihomjpiiaaaGreat
open Go.RowKit Go.Sort

/-- What is known of a region that draws its order (RI). -/
def shSp (slots : List Nat) (log at2 : Int) (a : Option Addr) (n c : Nat) (zs : List Int) (sc x h nx : Int) (V : ShV) (B : Nat) : RSpec where
  n := 16
  slots := slots
  kills := [[],[],[],[],[],[],[],[],[],[],[],[13],[14],[],[],[]]
  pres := [[],[],[],[],[],[],[],[],[],[],[],[],[],[11],[12],[]]
  fact := fun k v w => match k with
    | 0 => v = .int .i64 log
    | 1 => v = .slice a n c
    | 2 => ∃ a2, v = .slice a2 n n ∧ OwnU B w a2 n n zs
    | 3 => v = .int .i64 at2
    | 4 => v = .agg #[.int .i64 sc, .int .u64 x, .int .i64 h, .int .i64 nx]
    | 5 => v = .agg #[.int .i64 sc, .int .u64 x, .int .i64 h, .int .i64 nx]
    | 6 => ∃ ag cg, v = .tuple #[.agg #[.int .i64 V.lg, .int .i64 V.sz, .int .u64 V.rt, .int .i64 V.at2, .slice ag V.sg.length cg], .agg #[.int .i64 V.t.1, .int .u64 V.t.2.1, .int .i64 V.t.2.2.1, .int .i64 V.t.2.2.2], .int .i64 V.cd] ∧ Own B w ag V.sg.length cg V.sg
    | 7 => ∃ ag cg, v = .tuple #[.agg #[.int .i64 V.lg, .int .i64 V.sz, .int .u64 V.rt, .int .i64 V.at2, .slice ag V.sg.length cg], .agg #[.int .i64 V.t.1, .int .u64 V.t.2.1, .int .i64 V.t.2.2.1, .int .i64 V.t.2.2.2], .int .i64 V.cd] ∧ Own B w ag V.sg.length cg V.sg
    | 8 => ∃ ag cg, v = .agg #[.int .i64 V.lg, .int .i64 V.sz, .int .u64 V.rt, .int .i64 V.at2, .slice ag V.sg.length cg] ∧ Own B w ag V.sg.length cg V.sg
    | 9 => v = .agg #[.int .i64 V.t.1, .int .u64 V.t.2.1, .int .i64 V.t.2.2.1, .int .i64 V.t.2.2.2]
    | 10 => v = .int .i64 V.cd
    | 11 => ∃ g, v = .pointer (some ⟨g, 0, none⟩) ∧ w.heap[g]? = some (.cells #[.int .i64 0, .int .i64 0, .int .u64 0, .int .i64 0, .slice none 0 0] 28 (0, 0)) ∧ B ≤ g
    | 12 => ∃ g, v = .pointer (some ⟨g, 0, none⟩) ∧ w.heap[g]? = some (.cells #[.int .i64 0, .int .u64 0, .int .i64 0, .int .i64 0] 29 (0, 0)) ∧ B ≤ g
    | 13 => ∃ g ag cg, v = .pointer (some ⟨g, 0, none⟩) ∧ w.heap[g]? = some (.cells #[.int .i64 V.lg, .int .i64 V.sz, .int .u64 V.rt, .int .i64 V.at2, .slice ag V.sg.length cg] 28 (0, 0)) ∧ B ≤ g ∧ Own B w ag V.sg.length cg V.sg
    | 14 => ∃ g, v = .pointer (some ⟨g, 0, none⟩) ∧ w.heap[g]? = some (.cells #[.int .i64 V.t.1, .int .u64 V.t.2.1, .int .i64 V.t.2.2.1, .int .i64 V.t.2.2.2] 29 (0, 0)) ∧ B ≤ g
    | _ => v = .int .i64 V.cd
set_option linter.unusedVariables false in
theorem shSp_stb (slots : List Nat) (log at2 : Int) (a : Option Addr) (n c : Nat) (zs : List Int) (sc x h nx : Int) (V : ShV) (B : Nat) (k : Nat) (hk : k < 16) : StB ((shSp slots log at2 a n c zs sc x h nx V B).fact k) := by
  match k, hk with
  | 0, _ => exact fun _ _ _ h _ => h
  | 1, _ => exact fun _ _ _ h _ => h
  | 2, _ => exact fun _ _ _ ⟨a2, hv, ho⟩ hb => ⟨a2, hv, ho.kept hb⟩
  | 3, _ => exact fun _ _ _ h _ => h
  | 4, _ => exact fun _ _ _ h _ => h
  | 5, _ => exact fun _ _ _ h _ => h
  | 6, _ => exact fun _ _ _ ⟨ag, cg, hv, ho⟩ hb => ⟨ag, cg, hv, ho.kept hb⟩
  | 7, _ => exact fun _ _ _ ⟨ag, cg, hv, ho⟩ hb => ⟨ag, cg, hv, ho.kept hb⟩
  | 8, _ => exact fun _ _ _ ⟨ag, cg, hv, ho⟩ hb => ⟨ag, cg, hv, ho.kept hb⟩
  | 9, _ => exact fun _ _ _ h _ => h
  | 10, _ => exact fun _ _ _ h _ => h
  | 11, _ => exact fun _ _ _ ⟨g, hv, hg, hB⟩ hb => ⟨g, hv, below_kept hg hb, hB⟩
  | 12, _ => exact fun _ _ _ ⟨g, hv, hg, hB⟩ hb => ⟨g, hv, below_kept hg hb, hB⟩
  | 13, _ => exact fun _ _ _ ⟨g, ag, cg, hv, hg, hB, ho⟩ hb => ⟨g, ag, cg, hv, below_kept hg hb, hB, ho.kept hb⟩
  | 14, _ => exact fun _ _ _ ⟨g, hv, hg, hB⟩ hb => ⟨g, hv, below_kept hg hb, hB⟩
  | 15, _ => exact fun _ _ _ h _ => h
  | k + 16, hk => omega
set_option linter.unusedVariables false in
theorem shSp_st13 (slots : List Nat) (log at2 : Int) (a : Option Addr) (n c : Nat) (zs : List Int) (sc x h nx : Int) (V : ShV) (B : Nat) {W W2 : World} {g : Nat} {cs : Array Value} {fr : Nat × Nat} (hg : W.heap[g]? = some (.cells cs 28 fr)) (ht : Touch g (g + 1) W W2) (k : Nat) (hk : k < 16) (hne : k ≠ 13) (hkill : 13 ∉ (shSp slots log at2 a n c zs sc x h nx V B).kill k) (v : Value) (hfact : (shSp slots log at2 a n c zs sc x h nx V B).fact k v W) : (shSp slots log at2 a n c zs sc x h nx V B).fact k v W2 := by
  match k, hk, hne, hkill, hfact with
  | 0, _, _, _, h => exact h
  | 1, _, _, _, h => exact h
  | 2, _, _, _, ⟨a2, hv, ho⟩ => exact ⟨a2, hv, ⟨ownsRow_box ho.row hg (by decide) ht, ho.rng⟩⟩
  | 3, _, _, _, h => exact h
  | 4, _, _, _, h => exact h
  | 5, _, _, _, h => exact h
  | 6, _, _, _, ⟨ag, cg, hv, ho⟩ => exact ⟨ag, cg, hv, ⟨ownsRow_box ho.row hg (by decide) ht, ho.byte⟩⟩
  | 7, _, _, _, ⟨ag, cg, hv, ho⟩ => exact ⟨ag, cg, hv, ⟨ownsRow_box ho.row hg (by decide) ht, ho.byte⟩⟩
  | 8, _, _, _, ⟨ag, cg, hv, ho⟩ => exact ⟨ag, cg, hv, ⟨ownsRow_box ho.row hg (by decide) ht, ho.byte⟩⟩
  | 9, _, _, _, h => exact h
  | 10, _, _, _, h => exact h
  | 11, _, _, hkill, _ => exact absurd (List.Mem.head _) hkill
  | 12, _, _, _, ⟨g2, hv, h2, hB⟩ => exact ⟨g2, hv, box_box h2 hg (by decide) ht, hB⟩
  | 13, _, hne, _, _ => exact absurd rfl hne
  | 14, _, _, _, ⟨g2, hv, h2, hB⟩ => exact ⟨g2, hv, box_box h2 hg (by decide) ht, hB⟩
  | 15, _, _, _, h => exact h
  | k + 16, hk, _, _, _ => omega
set_option linter.unusedVariables false in
theorem shSp_st14 (slots : List Nat) (log at2 : Int) (a : Option Addr) (n c : Nat) (zs : List Int) (sc x h nx : Int) (V : ShV) (B : Nat) {W W2 : World} {g : Nat} {cs : Array Value} {fr : Nat × Nat} (hg : W.heap[g]? = some (.cells cs 29 fr)) (ht : Touch g (g + 1) W W2) (k : Nat) (hk : k < 16) (hne : k ≠ 14) (hkill : 14 ∉ (shSp slots log at2 a n c zs sc x h nx V B).kill k) (v : Value) (hfact : (shSp slots log at2 a n c zs sc x h nx V B).fact k v W) : (shSp slots log at2 a n c zs sc x h nx V B).fact k v W2 := by
  match k, hk, hne, hkill, hfact with
  | 0, _, _, _, h => exact h
  | 1, _, _, _, h => exact h
  | 2, _, _, _, ⟨a2, hv, ho⟩ => exact ⟨a2, hv, ⟨ownsRow_box ho.row hg (by decide) ht, ho.rng⟩⟩
  | 3, _, _, _, h => exact h
  | 4, _, _, _, h => exact h
  | 5, _, _, _, h => exact h
  | 6, _, _, _, ⟨ag, cg, hv, ho⟩ => exact ⟨ag, cg, hv, ⟨ownsRow_box ho.row hg (by decide) ht, ho.byte⟩⟩
  | 7, _, _, _, ⟨ag, cg, hv, ho⟩ => exact ⟨ag, cg, hv, ⟨ownsRow_box ho.row hg (by decide) ht, ho.byte⟩⟩
  | 8, _, _, _, ⟨ag, cg, hv, ho⟩ => exact ⟨ag, cg, hv, ⟨ownsRow_box ho.row hg (by decide) ht, ho.byte⟩⟩
  | 9, _, _, _, h => exact h
  | 10, _, _, _, h => exact h
  | 11, _, _, _, ⟨g2, hv, h2, hB⟩ => exact ⟨g2, hv, box_box h2 hg (by decide) ht, hB⟩
  | 12, _, _, hkill, _ => exact absurd (List.Mem.head _) hkill
  | 13, _, _, _, ⟨g2, ag, cg, hv, h2, hB, ho⟩ => exact ⟨g2, ag, cg, hv, box_box h2 hg (by decide) ht, hB, ⟨ownsRow_box ho.row hg (by decide) ht, ho.byte⟩⟩
  | 14, _, hne, _, _ => exact absurd rfl hne
  | 15, _, _, _, h => exact h
  | k + 16, hk, _, _, _ => omega

end Go.Proofs.YtdahihomjpiiaaaGreat

namespace Go.Proofs.YtdahihomjpiiaaaGreat
open Go.RowKit Go.Sort

set_option maxRecDepth 10000 in
set_option maxHeartbeats 16000000 in
theorem lawSignHead_walk (HSPEC : ∀ (seed h next : Int) (am : Option Addr) (n c : Nat) (bs : List Int) (w : World), U64 seed → Row w am n bs → n ≤ 1000000000000 → Calls Tryz.prog 30 #[tkv seed h next, .slice am n c] w fun e w' => ∃ v, e = .returned v ∧ SgR seed h next bs w.heap.size w' v ∧ Below w.heap.size w w')
    (log at2 : Int) (a : Option Addr) (n c : Nat) (zs : List Int) (sc x h nx : Int) (w : World) (hx : U64 x) (hr : RowU w a n zs) (hmax : n ≤ 9223372036854775807) :
    Calls Tryz.prog 3 #[.int .i64 log, .slice a n c, .int .i64 at2, .agg #[.int .i64 sc, .int .u64 x, .int .i64 h, .int .i64 nx]] w fun e w' => e = .returned (.bool true) ∧ Below w.heap.size w w' := by
  obtain ⟨w1, hw1⟩ : ∃ w1, w1 = w.alloc (.cells #[.int .i64 sc, .int .u64 x, .int .i64 h, .int .i64 nx] 25) := ⟨_, rfl⟩
  have hb0 : Below w.heap.size w w1 := by rw [hw1]; exact (Below.refl _ _).alloc (Nat.le_refl _) _
  have hk1 : w1.heap[w.heap.size]? = some (.cells #[.int .i64 sc, .int .u64 x, .int .i64 h, .int .i64 nx] 25 (0, 0)) := by rw [hw1]; exact heap_alloc_new w _
  have hlw : w.heap.size < w1.heap.size := (Array.getElem?_eq_some_iff.1 hk1).1
  have HK1 : Hid (_ = _) := hk1
  have HW1 : Hid (_ = _) := hw1
  have HRM : Hid (∀ w', Below w1.heap.size w1 w' → RowU w' a n zs) := fun w' hw' => hr.kept (keepT hb0 hw')
  have HS : Hid (∀ (seed h next : Int) (am : Option Addr) (n c : Nat) (bs : List Int) (w : World), U64 seed → Row w am n bs → n ≤ 1000000000000 → Calls Tryz.prog 30 #[tkv seed h next, .slice am n c] w fun e w' => ∃ v, e = .returned v ∧ SgR seed h next bs w.heap.size w' v ∧ Below w.heap.size w w') := HSPEC
  clear hw1 hr HSPEC hk1
  by_cases hbig : 1048576 < n
  · go_enter Tryz.func3, Tryz.ntmps3
    go_upto_region 1 with fail
    rw [← HW1.out]
    clear HW1
    go_wp2
    go_ret
    exact ⟨rfl, hb0⟩
  have hn : n ≤ 1048576 := by omega
  clear hmax
  obtain ⟨V, hV⟩ : ∃ V, V = shV log at2 zs sc x h nx := ⟨_, rfl⟩
  have hL1 : V.sg.length ≤ 1000 := by rw [hV]; exact shV_len _ _ _ _ _ _ _
  have hml : 1000 ≤ maxLen := by unfold maxLen; omega
  have HSP : Hid (∀ (a2 : Option Addr) (w : World), RowU w a2 n zs → Calls Tryz.prog 4 #[.int .i64 log, .slice a2 n n, .int .i64 at2, .agg #[.int .i64 sc, .int .u64 x, .int .i64 h, .int .i64 nx]] w fun e w' => ∃ ag cg, e = .returned (.tuple #[.agg #[.int .i64 V.lg, .int .i64 V.sz, .int .u64 V.rt, .int .i64 V.at2, .slice ag V.sg.length cg], .agg #[.int .i64 V.t.1, .int .u64 V.t.2.1, .int .i64 V.t.2.2.1, .int .i64 V.t.2.2.2], .int .i64 V.cd]) ∧ Own w.heap.size w' ag V.sg.length cg V.sg ∧ Below w.heap.size w w') := by
    intro a2 w' h1
    have := specSignHead_any HS.out log at2 a2 n n zs sc x h nx w' hx h1 (Nat.le_refl _) (by omega)
    rw [← hV] at this
    exact this
  have HIM : Hid (∀ (a2 : Option Addr) (w : World), RowU w a2 n zs → Calls Tryz.prog 7 #[.int .i64 log, .slice a2 n n, .int .i64 at2, .agg #[.int .i64 sc, .int .u64 x, .int .i64 h, .int .i64 nx]] w fun e w' => ∃ ag cg, e = .returned (.tuple #[.agg #[.int .i64 V.lg, .int .i64 V.sz, .int .u64 V.rt, .int .i64 V.at2, .slice ag V.sg.length cg], .agg #[.int .i64 V.t.1, .int .u64 V.t.2.1, .int .i64 V.t.2.2.1, .int .i64 V.t.2.2.2], .int .i64 V.cd]) ∧ Own w.heap.size w' ag V.sg.length cg V.sg ∧ Below w.heap.size w w') := by
    intro a2 w' h1
    have := implSignHead_any log at2 a2 n n zs sc x h nx w' hx h1
    rw [← hV] at this
    exact this
  clear hV HS
  have t0 : (V.cd != V.cd) = false := by simp
  go_enter Tryz.func3, Tryz.ntmps3
  go_upto_region 1 with fail
  rw [← HW1.out]
  clear HW1
  go_upto_region 3 with fail
  go_cut [9, 10, 11] (fun u v k wx => Hid (BoxHS V w1.heap.size w1 u v k wx))
  case first =>
    have HRR : Hid (∀ W, Below w1.heap.size w1 W → RowU W a n zs) := fun W hW => HRM.out W hW
    have HKK : Hid (∀ W, Below w1.heap.size w1 W → W.heap[w.heap.size]? = some (.cells #[.int .i64 sc, .int .u64 x, .int .i64 h, .int .i64 nx] 25 (0, 0))) := fun W hW => (hW.block _ hlw).trans HK1.out
    refine wp_region_ri (shSp [26, 27, 28, 29, 30, 31, 32, 25, 33, 34, 35, 9, 10, 9, 10, 11] log at2 a n c zs sc x h nx V w1.heap.size) [9, 10, 11, 25, 26, 27, 28, 29, 30, 31, 32, 33, 34, 35] w1.heap.size (fun a0 => a0.tmps.size = 135 ∧ aT a0 0 = .int .i64 log ∧ aT a0 1 = .slice a n c ∧ aT a0 2 = .int .i64 at2 ∧ aT a0 7 = .pointer (some ⟨w.heap.size, 0, none⟩)) (by kernel_rfl) rfl (by kernel_rfl) ⟨rfl, rfl, rfl, rfl, rfl⟩ ?_ ?_
    · rintro a0 ⟨hz, g0, g1, g2, g7⟩
      refine StepsRI.cons ?_ (StepsRI.cons ?_ (StepsRI.cons ?_ (StepsRI.cons ?_ (StepsRI.cons ?_ (StepsRI.cons ?_ (StepsRI.cons ?_ (StepsRI.cons ?_ (StepsRI.cons ?_ (StepsRI.cons ?_ (StepsRI.cons ?_ (StepsRI.cons ?_ (StepsRI.cons ?_ (StepsRI.cons ?_ (StepsRI.cons ?_ (StepsRI.cons ?_ (StepsRI.nil))))))))))))))))
      · intro l b W hI hl he K' hK
        exact opw_move 0 rfl (hK.out _ _ (hI.put 0 26 rfl rfl (by rw [hz]; decide) rfl hl rfl (Nat.le_refl _) (shSp_stb [26, 27, 28, 29, 30, 31, 32, 25, 33, 34, 35, 9, 10, 9, 10, 11] log at2 a n c zs sc x h nx V w1.heap.size) (Below.refl _ _) ((hI.fr.same 0 (by decide)).trans g0)))
      · intro l b W hI hl he K' hK
        exact opw_move 1 rfl (hK.out _ _ (hI.put 1 27 rfl rfl (by rw [hz]; decide) rfl hl rfl (Nat.le_refl _) (shSp_stb [26, 27, 28, 29, 30, 31, 32, 25, 33, 34, 35, 9, 10, 9, 10, 11] log at2 a n c zs sc x h nx V w1.heap.size) (Below.refl _ _) ((hI.fr.same 1 (by decide)).trans g1)))
      · intro l b W hI hl he K' hK
        have f0 := hI.got 1 (of_decide_eq_true rfl) (edge he 1 (by kernel_rfl)) rfl
        replace f0 : aT b 27 = .slice a n c := f0
        refine opw_call 5 #[.tmp 27] _ _ _ rfl Tryz.func5 (by kernel_rfl) rfl #[.slice a n c] (by simp [ev, f0]) ?_
        refine (toUint64S_any a n c zs W (HRR.out W hI.bel) hn).mono ?_
        rintro e W2 ⟨a2, rfl, ho, hb⟩
        exact ⟨_, rfl, hK.out _ _ (hI.put 2 28 rfl rfl (by rw [hz]; decide) rfl hl rfl (Nat.le_refl _) (shSp_stb [26, 27, 28, 29, 30, 31, 32, 25, 33, 34, 35, 9, 10, 9, 10, 11] log at2 a n c zs sc x h nx V w1.heap.size) hb ⟨a2, rfl, ho.mono hI.bel.size⟩)⟩
      · intro l b W hI hl he K' hK
        exact opw_move 2 rfl (hK.out _ _ (hI.put 3 29 rfl rfl (by rw [hz]; decide) rfl hl rfl (Nat.le_refl _) (shSp_stb [26, 27, 28, 29, 30, 31, 32, 25, 33, 34, 35, 9, 10, 9, 10, 11] log at2 a n c zs sc x h nx V w1.heap.size) (Below.refl _ _) ((hI.fr.same 2 (by decide)).trans g2)))
      · intro l b W hI hl he K' hK
        refine wp_load_row 25 _ rfl w.heap.size ((hI.fr.same 7 (by decide)).trans g7) 25 #[.int .i64 sc, .int .u64 x, .int .i64 h, .int .i64 nx] (0, 0) _ (HKK.out W hI.bel) Tryz.underlying25 rfl (by kernel_rfl) ?_
        exact hK.out _ _ (hI.put 4 30 rfl rfl (by rw [hz]; decide) rfl hl rfl (Nat.le_refl _) (shSp_stb [26, 27, 28, 29, 30, 31, 32, 25, 33, 34, 35, 9, 10, 9, 10, 11] log at2 a n c zs sc x h nx V w1.heap.size) (Below.refl _ _) rfl)
      · intro l b W hI hl he K' hK
        have f0 := hI.got 4 (of_decide_eq_true rfl) (edge he 4 (by kernel_rfl)) rfl
        replace f0 : aT b 30 = .agg #[.int .i64 sc, .int .u64 x, .int .i64 h, .int .i64 nx] := f0
        refine opw_call 6 #[.tmp 30] _ _ _ rfl Tryz.func6 (by kernel_rfl) rfl #[.agg #[.int .i64 sc, .int .u64 x, .int .i64 h, .int .i64 nx]] (by simp [ev, f0]) ?_
        refine (toSecret_agg sc x h nx W).mono ?_
        rintro e W2 ⟨rfl, hb⟩
        exact ⟨_, rfl, hK.out _ _ (hI.put 5 31 rfl rfl (by rw [hz]; decide) rfl hl rfl (Nat.le_refl _) (shSp_stb [26, 27, 28, 29, 30, 31, 32, 25, 33, 34, 35, 9, 10, 9, 10, 11] log at2 a n c zs sc x h nx V w1.heap.size) hb rfl)⟩
      · intro l b W hI hl he K' hK
        have f0 := hI.got 0 (of_decide_eq_true rfl) (edge he 0 (by kernel_rfl)) rfl
        replace f0 : aT b 26 = .int .i64 log := f0
        have f1 := hI.got 2 (of_decide_eq_true rfl) (edge he 2 (by kernel_rfl)) rfl
        obtain ⟨a2, f1, ho2⟩ := f1
        replace f1 : aT b 28 = .slice a2 n n := f1
        have f2 := hI.got 3 (of_decide_eq_true rfl) (edge he 3 (by kernel_rfl)) rfl
        replace f2 : aT b 29 = .int .i64 at2 := f2
        have f3 := hI.got 5 (of_decide_eq_true rfl) (edge he 5 (by kernel_rfl)) rfl
        replace f3 : aT b 31 = .agg #[.int .i64 sc, .int .u64 x, .int .i64 h, .int .i64 nx] := f3
        refine opw_call 4 #[.tmp 26, .tmp 28, .tmp 29, .tmp 31] _ _ _ rfl Tryz.func4 (by kernel_rfl) rfl #[.int .i64 log, .slice a2 n n, .int .i64 at2, .agg #[.int .i64 sc, .int .u64 x, .int .i64 h, .int .i64 nx]] (by simp [ev, f0, f1, f2, f3]) ?_
        refine (HSP.out a2 W ho2.toRow).mono ?_
        rintro e W2 ⟨ag, cg, rfl, ho, hb⟩
        exact ⟨_, rfl, hK.out _ _ (hI.put 6 32 rfl rfl (by rw [hz]; decide) rfl hl rfl (Nat.le_refl _) (shSp_stb [26, 27, 28, 29, 30, 31, 32, 25, 33, 34, 35, 9, 10, 9, 10, 11] log at2 a n c zs sc x h nx V w1.heap.size) hb ⟨ag, cg, rfl, ho.mono hI.bel.size⟩)⟩
      · intro l b W hI hl he K' hK
        have f := hI.got 6 (of_decide_eq_true rfl) (edge he 6 (by kernel_rfl)) rfl
        exact opw_move 32 rfl (hK.out _ _ (hI.put 7 25 rfl rfl (by rw [hz]; decide) rfl hl rfl (Nat.le_refl _) (shSp_stb [26, 27, 28, 29, 30, 31, 32, 25, 33, 34, 35, 9, 10, 9, 10, 11] log at2 a n c zs sc x h nx V w1.heap.size) (Below.refl _ _) f))
      · intro l b W hI hl he K' hK
        have f := hI.got 7 (of_decide_eq_true rfl) (edge he 7 (by kernel_rfl)) rfl
        obtain ⟨ag, cg, f, ho⟩ := f
        exact opw_extract 25 0 rfl _ _ f rfl (hK.out _ _ (hI.put 8 33 rfl rfl (by rw [hz]; decide) rfl hl rfl (Nat.le_refl _) (shSp_stb [26, 27, 28, 29, 30, 31, 32, 25, 33, 34, 35, 9, 10, 9, 10, 11] log at2 a n c zs sc x h nx V w1.heap.size) (Below.refl _ _) ⟨ag, cg, rfl, ho⟩))
      · intro l b W hI hl he K' hK
        have f := hI.got 7 (of_decide_eq_true rfl) (edge he 7 (by kernel_rfl)) rfl
        obtain ⟨ag, cg, f, ho⟩ := f
        exact opw_extract 25 1 rfl _ _ f rfl (hK.out _ _ (hI.put 9 34 rfl rfl (by rw [hz]; decide) rfl hl rfl (Nat.le_refl _) (shSp_stb [26, 27, 28, 29, 30, 31, 32, 25, 33, 34, 35, 9, 10, 9, 10, 11] log at2 a n c zs sc x h nx V w1.heap.size) (Below.refl _ _) rfl))
      · intro l b W hI hl he K' hK
        have f := hI.got 7 (of_decide_eq_true rfl) (edge he 7 (by kernel_rfl)) rfl
        obtain ⟨ag, cg, f, ho⟩ := f
        exact opw_extract 25 2 rfl _ _ f rfl (hK.out _ _ (hI.put 10 35 rfl rfl (by rw [hz]; decide) rfl hl rfl (Nat.le_refl _) (shSp_stb [26, 27, 28, 29, 30, 31, 32, 25, 33, 34, 35, 9, 10, 9, 10, 11] log at2 a n c zs sc x h nx V w1.heap.size) (Below.refl _ _) rfl))
      · intro l b W hI hl he K' hK
        refine opw_value (w' := W.alloc (.cells #[.int .i64 0, .int .i64 0, .int .u64 0, .int .i64 0, .slice none 0 0] 28)) (.pointer (some ⟨W.heap.size, 0, none⟩)) (by kernel_rfl) ?_
        exact hK.out _ _ (hI.put 11 9 rfl rfl (by rw [hz]; decide) rfl hl rfl (Nat.le_refl _) (shSp_stb [26, 27, 28, 29, 30, 31, 32, 25, 33, 34, 35, 9, 10, 9, 10, 11] log at2 a n c zs sc x h nx V w1.heap.size) ((Below.refl _ _).alloc (Nat.le_refl _) _) ⟨W.heap.size, rfl, heap_alloc_new W _, hI.bel.size⟩)
      · intro l b W hI hl he K' hK
        refine opw_value (w' := W.alloc (.cells #[.int .i64 0, .int .u64 0, .int .i64 0, .int .i64 0] 29)) (.pointer (some ⟨W.heap.size, 0, none⟩)) (by kernel_rfl) ?_
        exact hK.out _ _ (hI.put 12 10 rfl rfl (by rw [hz]; decide) rfl hl rfl (Nat.le_refl _) (shSp_stb [26, 27, 28, 29, 30, 31, 32, 25, 33, 34, 35, 9, 10, 9, 10, 11] log at2 a n c zs sc x h nx V w1.heap.size) ((Below.refl _ _).alloc (Nat.le_refl _) _) ⟨W.heap.size, rfl, heap_alloc_new W _, hI.bel.size⟩)
      · intro l b W hI hl he K' hK
        obtain ⟨g, fb, hgb, hge⟩ := hI.got1 11 13 (of_decide_eq_true rfl) (edge he 11 (by kernel_rfl)) hl rfl
        have f := hI.got 8 (of_decide_eq_true rfl) (edge he 8 (by kernel_rfl)) rfl
        obtain ⟨ag, cg, f, ho⟩ := f
        refine wp_store_row 28 _ _ rfl g #[.int .i64 V.lg, .int .i64 V.sz, .int .u64 V.rt, .int .i64 V.at2, .slice ag V.sg.length cg] fb f 28 _ hgb (by kernel_rfl) rfl (by simp [Value.oneCell']) ?_
        have ht := setRow_touch W g #[.int .i64 V.lg, .int .i64 V.sz, .int .u64 V.rt, .int .i64 V.at2, .slice ag V.sg.length cg]
        exact hK.out _ _ (hI.store 13 (fun j hj => by
            rcases List.mem_singleton.1 hj with rfl
            exact edge he 11 (by kernel_rfl)) (hI.bel.trans (ht.below hge hI.bel.size)) (shSp_st13 [26, 27, 28, 29, 30, 31, 32, 25, 33, 34, 35, 9, 10, 9, 10, 11] log at2 a n c zs sc x h nx V w1.heap.size hgb ht) ⟨g, ag, cg, fb, setRow_heap W g _ _ _ _ hgb, hge, ⟨ownsRow_box ho.row hgb (by decide) ht, ho.byte⟩⟩)
      · intro l b W hI hl he K' hK
        obtain ⟨g, fb, hgb, hge⟩ := hI.got1 12 14 (of_decide_eq_true rfl) (edge he 12 (by kernel_rfl)) hl rfl
        have f := hI.got 9 (of_decide_eq_true rfl) (edge he 9 (by kernel_rfl)) rfl
        refine wp_store_row 29 _ _ rfl g #[.int .i64 V.t.1, .int .u64 V.t.2.1, .int .i64 V.t.2.2.1, .int .i64 V.t.2.2.2] fb f 29 _ hgb (by kernel_rfl) rfl (by simp [Value.oneCell']) ?_
        have ht := setRow_touch W g #[.int .i64 V.t.1, .int .u64 V.t.2.1, .int .i64 V.t.2.2.1, .int .i64 V.t.2.2.2]
        exact hK.out _ _ (hI.store 14 (fun j hj => by
            rcases List.mem_singleton.1 hj with rfl
            exact edge he 12 (by kernel_rfl)) (hI.bel.trans (ht.below hge hI.bel.size)) (shSp_st14 [26, 27, 28, 29, 30, 31, 32, 25, 33, 34, 35, 9, 10, 9, 10, 11] log at2 a n c zs sc x h nx V w1.heap.size hgb ht) ⟨g, fb, setRow_heap W g _ _ _ _ hgb, hge⟩)
      · intro l b W hI hl he K' hK
        have f := hI.got 10 (of_decide_eq_true rfl) (edge he 10 (by kernel_rfl)) rfl
        exact opw_assign 35 rfl (hK.out _ _ (hI.put 15 11 rfl rfl (by rw [hz]; decide) rfl hl rfl (Nat.le_refl _) (shSp_stb [26, 27, 28, 29, 30, 31, 32, 25, 33, 34, 35, 9, 10, 9, 10, 11] log at2 a n c zs sc x h nx V w1.heap.size) (Below.refl _ _) f))
    · intro b W hf hb F
      obtain ⟨gh, ag, cg, e9, hh, hB1, ho⟩ := F 13 (of_decide_eq_true rfl) rfl
      obtain ⟨gs, e10, hs, hB2⟩ := F 14 (of_decide_eq_true rfl) rfl
      have e11 := F 15 (of_decide_eq_true rfl) rfl
      replace e9 : aT b 9 = _ := e9
      replace e10 : aT b 10 = _ := e10
      replace e11 : aT b 11 = _ := e11
      have HB : Hid (BoxHS V w1.heap.size w1 (aT b 9) (aT b 10) (aT b 11) W) := ⟨gh, gs, ag, cg, e9, e10, e11, hh, hs, ho, hB1, hB2, hb⟩
      clear F e9 e10 e11 hh hs ho hB1 hB2 hb
      rw [hf.eq]
      generalize aT b = A at HB
      clear hf b
      simp only [puts, Act.put, List.setIfInBounds_toArray, List.set_cons_zero, List.set_cons_succ]
      go_wp2_with fail
      go_meet
      exact HB
  case rest =>
    obtain ⟨gh, gs, aw, cw, rfl, rfl, rfl, hgh, hgs, how, hlh, hls, hb5⟩ := hcut
    have HBH : Hid (wc.heap[gh]? = some (.cells #[.int .i64 V.lg, .int .i64 V.sz, .int .u64 V.rt, .int .i64 V.at2, .slice aw V.sg.length cw] 28 (0, 0))) := hgh
    have HBS : Hid (wc.heap[gs]? = some (.cells #[.int .i64 V.t.1, .int .u64 V.t.2.1, .int .i64 V.t.2.2.1, .int .i64 V.t.2.2.2] 29 (0, 0))) := hgs
    have HOW5 : Hid (Own w1.heap.size wc aw V.sg.length cw V.sg) := how
    obtain ⟨w5, hw5⟩ : ∃ w5, w5 = wc := ⟨_, rfl⟩
    subst hw5
    have hlh5 : gh < w5.heap.size := (Array.getElem?_eq_some_iff.1 HBH.out).1
    have hls5 : gs < w5.heap.size := (Array.getElem?_eq_some_iff.1 HBS.out).1
    have HIN : Hid (In aw V.sg.length w1.heap.size w5.heap.size) := HOW5.out.in_
    have hs5 := hb5.size
    clear hgh hgs how
    go_wp2_with fail
    refine (toUint64S_any a n c zs _ (HRM.out _ hb5) hn).mono ?_
    rintro e w6 ⟨ax, rfl, hox, hb6⟩
    have hc6 := keepT hb5 hb6
    have hs6 := hb6.size
    have HOX : Hid (OwnU w5.heap.size w6 ax n n zs) := hox
    have HXL : Hid (∀ k, (Value.slice ax n n).ownBlock = some k → w5.heap.size ≤ k ∧ k < w6.heap.size) := fun k hk => ⟨(hox.row.lt k hk).1, (hox.row.lt k hk).2⟩
    clear hox
    have hk6 := (hc6.block _ hlw).trans HK1.out
    obtain ⟨k0, k1, k2, k3⟩ := cells4 hk6
    clear hk6
    go_wp2_with fail
    refine (toSecret_any sc x h nx _).mono ?_
    rintro e w7 ⟨rfl, hb7⟩
    have hc7 := keepT hc6 hb7
    have hs7 := hb7.size
    have HOX7 : Hid (OwnU w5.heap.size w7 ax n n zs) := HOX.out.kept hb7
    clear k0 k1 k2 k3 HOX
    go_wp2_with fail
    refine (HIM.out ax _ HOX7.out.toRow).mono ?_
    rintro e w8 ⟨ag, cg, rfl, hog, hb8⟩
    have hc8 := keepT hc7 hb8
    have hs8 := hb8.size
    obtain ⟨w9, hw9⟩ : ∃ w9, w9 = (w8.alloc (.cells #[.int .i64 V.lg, .int .i64 V.sz, .int .u64 V.rt, .int .i64 V.at2, .slice ag V.sg.length cg] 28)).alloc (.cells #[.int .i64 V.t.1, .int .u64 V.t.2.1, .int .i64 V.t.2.2.1, .int .i64 V.t.2.2.2] 29) := ⟨_, rfl⟩
    have hb9 : Below w8.heap.size w8 w9 := by rw [hw9]; exact two_below _ _ _
    have hB9 : w9.heap[w8.heap.size]? = some (.cells #[.int .i64 V.lg, .int .i64 V.sz, .int .u64 V.rt, .int .i64 V.at2, .slice ag V.sg.length cg] 28 (0, 0)) ∧ w9.heap[w8.heap.size + 1]? = some (.cells #[.int .i64 V.t.1, .int .u64 V.t.2.1, .int .i64 V.t.2.2.1, .int .i64 V.t.2.2.2] 29 (0, 0)) := by rw [hw9]; exact two_blocks _ _ _
    have hc9 := keepT hc8 hb9
    have h59 : Below w5.heap.size w5 w9 := keepT hb6 (keepT hb7 (keepT hb8 hb9))
    have HX9 : Hid (Sxh w.heap.size gh gs w8.heap.size (w8.heap.size + 1) sc x h nx V aw cw ag cg w9) := ⟨(hc9.block _ hlw).trans HK1.out, (h59.block _ hlh5).trans HBH.out, (h59.block _ hls5).trans HBS.out, hB9.1, hB9.2⟩
    have HOG : Hid (Own w7.heap.size w9 ag V.sg.length cg V.sg) := hog.kept hb9
    have HGL : Hid (∀ k, (Value.slice ag V.sg.length cg).ownBlock = some k → w7.heap.size ≤ k ∧ k < w8.heap.size) := fun k hk => ⟨(hog.row.lt k hk).1, (hog.row.lt k hk).2⟩
    have HOX9 : Hid (OwnU w5.heap.size w9 ax n n zs) := HOX7.out.kept (keepT hb8 hb9)
    have HOW9 : Hid (Row w9 aw V.sg.length V.sg) := (HOW5.out.kept h59).toRow
    have HW9 : Hid (_ = _) := hw9
    clear hw9 hB9 hog HOX7 HOW5 HBH HBS
    go_upto_region 6 with fail
    rw [← HW9.out]
    clear HW9
    obtain ⟨s0, s1, s2, s3, s4⟩ := cells5 HX9.out.wh
    obtain ⟨g0, g1, g2, g3, g4⟩ := cells5 HX9.out.gh'
    go_wp2_with fail
    refine (eqHead_same V.lg V.sz V.rt V.at2 ag aw V.sg.length cg cw V.sg _ HOG.out.toRow HOW9.out (by omega)).mono ?_
    rintro e w11a ⟨rfl, hbw11a⟩
    clear s0 s1 s2 s3 s4 g0 g1 g2 g3 g4
    obtain ⟨s0, s1, s2, s3⟩ := cells4 ((hbw11a.block _ (Array.getElem?_eq_some_iff.1 HX9.out.ws).1).trans HX9.out.ws)
    obtain ⟨g0, g1, g2, g3⟩ := cells4 ((hbw11a.block _ (Array.getElem?_eq_some_iff.1 HX9.out.gs').1).trans HX9.out.gs')
    go_wp2_with fail
    refine (eqSecret_same V.t _).mono ?_
    rintro e w11 ⟨rfl, hbw11b⟩
    clear s0 s1 s2 s3 g0 g1 g2 g3
    have hbw11 := keepT hbw11a hbw11b
    clear hbw11a hbw11b
    have hc11 := keepT hc9 hbw11
    go_wp2_with fail
    refine (toUint64S_any a n c zs _ (HRM.out _ hc11) hn).mono ?_
    rintro e w12 ⟨a12, rfl, ho12, hb12⟩
    have h9_12 := keepT hbw11 hb12
    have HR12 : Hid (RowU w12 a12 n zs) := ho12.toRow
    clear ho12
    go_wp2_with fail
    refine (eqUint64S_same ax a12 n n n zs _ (HOX9.out.kept h9_12).toRow HR12.out (by omega)).mono ?_
    rintro e w13 ⟨rfl, hb13⟩
    have h9_13 := keepT h9_12 hb13
    have hc13 := keepT hc9 h9_13
    have HX13 : Hid (_) := HX9.out.kept h9_13
    have HG13 : Hid (_) := HOG.out.kept h9_13
    have HW13 : Hid (_) := HOW9.out.kept h9_13
    have hs13 := h9_13.size
    have hs9 := hb9.size
    clear HR12 HX9 HOG HOW9 hbw11 hb12 hb13 h9_12
    go_wp2_with fail
    refine (markU_any w5.heap.size ax n n 1 zs _ (HOX9.out.kept h9_13) (by omega) (by decide)).mono ?_
    rintro e w14 ⟨rfl, _, hg14⟩
    have ht14 : Touch w5.heap.size w6.heap.size w13 w14 := touch_grownS hg14 HXL.out
    have hc14 : Below w1.heap.size w1 w14 := hc13.trans (ht14.below (by omega) (by have := hc13.size; omega))
    have HX14 : Hid (_) := HX13.out.touch ht14 (.inl (by omega)) (.inl (by omega)) (.inl (by omega)) (.inr (by omega)) (.inr (by omega))
    have HG14 : Hid (_) := own_touchS HG13.out ht14 hs7
    have HW14 : Hid (Row w14 aw V.sg.length V.sg) := HW13.out.touch HIN.out (.inl (Nat.le_refl _)) ht14
    have hs14 := ht14.size
    clear ht14 hg14 HX13 HG13 HW13 h9_13 HOX9
    have kz : ¬ (((1 + n : Nat) : Int) < 0) := by omega
    obtain ⟨kk, hkk⟩ : ∃ kk : Int, kk = ((1 + n : Nat) : Int) := ⟨_, rfl⟩
    rw [← hkk] at kz ⊢
    clear hkk
    obtain ⟨s0, s1, s2, s3, s4⟩ := cells5 HX14.out.wh
    obtain ⟨g0, g1, g2, g3, g4⟩ := cells5 HX14.out.gh'
    go_wp2_with fail
    refine (eqHead_same V.lg V.sz V.rt V.at2 ag aw V.sg.length cg cw V.sg _ HG14.out.toRow HW14.out (by omega)).mono ?_
    rintro e w16a ⟨rfl, hbw16a⟩
    clear s0 s1 s2 s3 s4 g0 g1 g2 g3 g4
    obtain ⟨s0, s1, s2, s3⟩ := cells4 ((hbw16a.block _ (Array.getElem?_eq_some_iff.1 HX14.out.ws).1).trans HX14.out.ws)
    obtain ⟨g0, g1, g2, g3⟩ := cells4 ((hbw16a.block _ (Array.getElem?_eq_some_iff.1 HX14.out.gs').1).trans HX14.out.gs')
    go_wp2_with fail
    refine (eqSecret_same V.t _).mono ?_
    rintro e w16 ⟨rfl, hbw16b⟩
    clear s0 s1 s2 s3 g0 g1 g2 g3
    have hbw16 := keepT hbw16a hbw16b
    clear hbw16a hbw16b
    have hc16 := keepT hc14 hbw16
    have HX16 : Hid (_) := HX14.out.kept hbw16
    have HG16 : Hid (_) := HG14.out.kept hbw16
    have HW16 : Hid (_) := HW14.out.kept hbw16
    have hs16 := hbw16.size
    clear HX14 HG14 HW14 hbw16
    obtain ⟨g0, g1, g2, g3, g4⟩ := cells5 HX16.out.gh'
    go_wp2_with fail
    refine (markHead_any w7.heap.size w7.heap.size w8.heap.size V.lg V.sz V.rt V.at2 ag V.sg.length cg 1 V.sg _ HG16.out (by omega) (by decide) (by decide) HGL.out).mono ?_
    rintro e w17 ⟨rfl, ho17, ht17⟩
    clear g0 g1 g2 g3 g4
    have hc17 : Below w1.heap.size w1 w17 := hc16.trans (ht17.below (by have := hc7.size; omega) (by have := hc16.size; omega))
    have HX17 : Hid (_) := HX16.out.touch ht17 (.inl (by have := hc7.size; omega)) (.inl (by omega)) (.inl (by omega)) (.inr (by omega)) (.inr (by omega))
    have HW17 : Hid (Row w17 aw V.sg.length V.sg) := HW16.out.touch HIN.out (.inl (by omega)) ht17
    have HM17 : Hid (_) := ho17.toRow
    clear ht17 HX16 HG16 HW16 ho17
    have tq : ((1 : Int) + (V.sg.length : Int) != 1 + (V.sg.length : Int)) = false := by simp
    have tz : ¬ ((1 : Int) + (V.sg.length : Int) < 0) := by omega
    obtain ⟨g0, g1, g2, g3, g4⟩ := cells5 HX17.out.gh'
    go_wp2_with fail
    refine (heldHead_any V.lg V.sz V.rt V.at2 ag V.sg.length cg 1 _ HM17.out (by omega) (by decide) (by decide)).mono ?_
    rintro e w18 ⟨rfl, hb18⟩
    clear g0 g1 g2 g3 g4
    have hc18 := keepT hc17 hb18
    have HX18 : Hid (_) := HX17.out.kept hb18
    have HW18 : Hid (_) := HW17.out.kept hb18
    have HM18 : Hid (_) := HM17.out.kept hb18
    clear HX17 HW17 HM17 hb18
    go_upto_region 22 with fail
    go_cut [19, 20, 21] (fun u v k wx => Hid (BoxHS V w18.heap.size w18 u v k wx))
    case first =>
      have HRR : Hid (∀ W, Below w18.heap.size w18 W → RowU W a n zs) := fun W hW => HRM.out W (keepT hc18 hW)
      have HKK : Hid (∀ W, Below w18.heap.size w18 W → W.heap[w.heap.size]? = some (.cells #[.int .i64 sc, .int .u64 x, .int .i64 h, .int .i64 nx] 25 (0, 0))) := fun W hW => ((keepT hc18 hW).block _ hlw).trans HK1.out
      refine wp_region_ri (shSp [102, 103, 104, 105, 106, 107, 108, 101, 109, 110, 111, 19, 20, 19, 20, 21] log at2 a n c zs sc x h nx V w18.heap.size) [19, 20, 21, 101, 102, 103, 104, 105, 106, 107, 108, 109, 110, 111] w18.heap.size (fun a0 => a0.tmps.size = 135 ∧ aT a0 0 = .int .i64 log ∧ aT a0 1 = .slice a n c ∧ aT a0 2 = .int .i64 at2 ∧ aT a0 7 = .pointer (some ⟨w.heap.size, 0, none⟩)) (by kernel_rfl) rfl (by kernel_rfl) ⟨rfl, rfl, rfl, rfl, rfl⟩ ?_ ?_
      · rintro a0 ⟨hz, g0, g1, g2, g7⟩
        refine StepsRI.cons ?_ (StepsRI.cons ?_ (StepsRI.cons ?_ (StepsRI.cons ?_ (StepsRI.cons ?_ (StepsRI.cons ?_ (StepsRI.cons ?_ (StepsRI.cons ?_ (StepsRI.cons ?_ (StepsRI.cons ?_ (StepsRI.cons ?_ (StepsRI.cons ?_ (StepsRI.cons ?_ (StepsRI.cons ?_ (StepsRI.cons ?_ (StepsRI.cons ?_ (StepsRI.nil))))))))))))))))
        · intro l b W hI hl he K' hK
          exact opw_move 0 rfl (hK.out _ _ (hI.put 0 102 rfl rfl (by rw [hz]; decide) rfl hl rfl (Nat.le_refl _) (shSp_stb [102, 103, 104, 105, 106, 107, 108, 101, 109, 110, 111, 19, 20, 19, 20, 21] log at2 a n c zs sc x h nx V w18.heap.size) (Below.refl _ _) ((hI.fr.same 0 (by decide)).trans g0)))
        · intro l b W hI hl he K' hK
          exact opw_move 1 rfl (hK.out _ _ (hI.put 1 103 rfl rfl (by rw [hz]; decide) rfl hl rfl (Nat.le_refl _) (shSp_stb [102, 103, 104, 105, 106, 107, 108, 101, 109, 110, 111, 19, 20, 19, 20, 21] log at2 a n c zs sc x h nx V w18.heap.size) (Below.refl _ _) ((hI.fr.same 1 (by decide)).trans g1)))
        · intro l b W hI hl he K' hK
          have f0 := hI.got 1 (of_decide_eq_true rfl) (edge he 1 (by kernel_rfl)) rfl
          replace f0 : aT b 103 = .slice a n c := f0
          refine opw_call 5 #[.tmp 103] _ _ _ rfl Tryz.func5 (by kernel_rfl) rfl #[.slice a n c] (by simp [ev, f0]) ?_
          refine (toUint64S_any a n c zs W (HRR.out W hI.bel) hn).mono ?_
          rintro e W2 ⟨a2, rfl, ho, hb⟩
          exact ⟨_, rfl, hK.out _ _ (hI.put 2 104 rfl rfl (by rw [hz]; decide) rfl hl rfl (Nat.le_refl _) (shSp_stb [102, 103, 104, 105, 106, 107, 108, 101, 109, 110, 111, 19, 20, 19, 20, 21] log at2 a n c zs sc x h nx V w18.heap.size) hb ⟨a2, rfl, ho.mono hI.bel.size⟩)⟩
        · intro l b W hI hl he K' hK
          exact opw_move 2 rfl (hK.out _ _ (hI.put 3 105 rfl rfl (by rw [hz]; decide) rfl hl rfl (Nat.le_refl _) (shSp_stb [102, 103, 104, 105, 106, 107, 108, 101, 109, 110, 111, 19, 20, 19, 20, 21] log at2 a n c zs sc x h nx V w18.heap.size) (Below.refl _ _) ((hI.fr.same 2 (by decide)).trans g2)))
        · intro l b W hI hl he K' hK
          refine wp_load_row 25 _ rfl w.heap.size ((hI.fr.same 7 (by decide)).trans g7) 25 #[.int .i64 sc, .int .u64 x, .int .i64 h, .int .i64 nx] (0, 0) _ (HKK.out W hI.bel) Tryz.underlying25 rfl (by kernel_rfl) ?_
          exact hK.out _ _ (hI.put 4 106 rfl rfl (by rw [hz]; decide) rfl hl rfl (Nat.le_refl _) (shSp_stb [102, 103, 104, 105, 106, 107, 108, 101, 109, 110, 111, 19, 20, 19, 20, 21] log at2 a n c zs sc x h nx V w18.heap.size) (Below.refl _ _) rfl)
        · intro l b W hI hl he K' hK
          have f0 := hI.got 4 (of_decide_eq_true rfl) (edge he 4 (by kernel_rfl)) rfl
          replace f0 : aT b 106 = .agg #[.int .i64 sc, .int .u64 x, .int .i64 h, .int .i64 nx] := f0
          refine opw_call 6 #[.tmp 106] _ _ _ rfl Tryz.func6 (by kernel_rfl) rfl #[.agg #[.int .i64 sc, .int .u64 x, .int .i64 h, .int .i64 nx]] (by simp [ev, f0]) ?_
          refine (toSecret_agg sc x h nx W).mono ?_
          rintro e W2 ⟨rfl, hb⟩
          exact ⟨_, rfl, hK.out _ _ (hI.put 5 107 rfl rfl (by rw [hz]; decide) rfl hl rfl (Nat.le_refl _) (shSp_stb [102, 103, 104, 105, 106, 107, 108, 101, 109, 110, 111, 19, 20, 19, 20, 21] log at2 a n c zs sc x h nx V w18.heap.size) hb rfl)⟩
        · intro l b W hI hl he K' hK
          have f0 := hI.got 0 (of_decide_eq_true rfl) (edge he 0 (by kernel_rfl)) rfl
          replace f0 : aT b 102 = .int .i64 log := f0
          have f1 := hI.got 2 (of_decide_eq_true rfl) (edge he 2 (by kernel_rfl)) rfl
          obtain ⟨a2, f1, ho2⟩ := f1
          replace f1 : aT b 104 = .slice a2 n n := f1
          have f2 := hI.got 3 (of_decide_eq_true rfl) (edge he 3 (by kernel_rfl)) rfl
          replace f2 : aT b 105 = .int .i64 at2 := f2
          have f3 := hI.got 5 (of_decide_eq_true rfl) (edge he 5 (by kernel_rfl)) rfl
          replace f3 : aT b 107 = .agg #[.int .i64 sc, .int .u64 x, .int .i64 h, .int .i64 nx] := f3
          refine opw_call 7 #[.tmp 102, .tmp 104, .tmp 105, .tmp 107] _ _ _ rfl Tryz.func7 (by kernel_rfl) rfl #[.int .i64 log, .slice a2 n n, .int .i64 at2, .agg #[.int .i64 sc, .int .u64 x, .int .i64 h, .int .i64 nx]] (by simp [ev, f0, f1, f2, f3]) ?_
          refine (HIM.out a2 W ho2.toRow).mono ?_
          rintro e W2 ⟨ag, cg, rfl, ho, hb⟩
          exact ⟨_, rfl, hK.out _ _ (hI.put 6 108 rfl rfl (by rw [hz]; decide) rfl hl rfl (Nat.le_refl _) (shSp_stb [102, 103, 104, 105, 106, 107, 108, 101, 109, 110, 111, 19, 20, 19, 20, 21] log at2 a n c zs sc x h nx V w18.heap.size) hb ⟨ag, cg, rfl, ho.mono hI.bel.size⟩)⟩
        · intro l b W hI hl he K' hK
          have f := hI.got 6 (of_decide_eq_true rfl) (edge he 6 (by kernel_rfl)) rfl
          exact opw_move 108 rfl (hK.out _ _ (hI.put 7 101 rfl rfl (by rw [hz]; decide) rfl hl rfl (Nat.le_refl _) (shSp_stb [102, 103, 104, 105, 106, 107, 108, 101, 109, 110, 111, 19, 20, 19, 20, 21] log at2 a n c zs sc x h nx V w18.heap.size) (Below.refl _ _) f))
        · intro l b W hI hl he K' hK
          have f := hI.got 7 (of_decide_eq_true rfl) (edge he 7 (by kernel_rfl)) rfl
          obtain ⟨ag, cg, f, ho⟩ := f
          exact opw_extract 101 0 rfl _ _ f rfl (hK.out _ _ (hI.put 8 109 rfl rfl (by rw [hz]; decide) rfl hl rfl (Nat.le_refl _) (shSp_stb [102, 103, 104, 105, 106, 107, 108, 101, 109, 110, 111, 19, 20, 19, 20, 21] log at2 a n c zs sc x h nx V w18.heap.size) (Below.refl _ _) ⟨ag, cg, rfl, ho⟩))
        · intro l b W hI hl he K' hK
          have f := hI.got 7 (of_decide_eq_true rfl) (edge he 7 (by kernel_rfl)) rfl
          obtain ⟨ag, cg, f, ho⟩ := f
          exact opw_extract 101 1 rfl _ _ f rfl (hK.out _ _ (hI.put 9 110 rfl rfl (by rw [hz]; decide) rfl hl rfl (Nat.le_refl _) (shSp_stb [102, 103, 104, 105, 106, 107, 108, 101, 109, 110, 111, 19, 20, 19, 20, 21] log at2 a n c zs sc x h nx V w18.heap.size) (Below.refl _ _) rfl))
        · intro l b W hI hl he K' hK
          have f := hI.got 7 (of_decide_eq_true rfl) (edge he 7 (by kernel_rfl)) rfl
          obtain ⟨ag, cg, f, ho⟩ := f
          exact opw_extract 101 2 rfl _ _ f rfl (hK.out _ _ (hI.put 10 111 rfl rfl (by rw [hz]; decide) rfl hl rfl (Nat.le_refl _) (shSp_stb [102, 103, 104, 105, 106, 107, 108, 101, 109, 110, 111, 19, 20, 19, 20, 21] log at2 a n c zs sc x h nx V w18.heap.size) (Below.refl _ _) rfl))
        · intro l b W hI hl he K' hK
          refine opw_value (w' := W.alloc (.cells #[.int .i64 0, .int .i64 0, .int .u64 0, .int .i64 0, .slice none 0 0] 28)) (.pointer (some ⟨W.heap.size, 0, none⟩)) (by kernel_rfl) ?_
          exact hK.out _ _ (hI.put 11 19 rfl rfl (by rw [hz]; decide) rfl hl rfl (Nat.le_refl _) (shSp_stb [102, 103, 104, 105, 106, 107, 108, 101, 109, 110, 111, 19, 20, 19, 20, 21] log at2 a n c zs sc x h nx V w18.heap.size) ((Below.refl _ _).alloc (Nat.le_refl _) _) ⟨W.heap.size, rfl, heap_alloc_new W _, hI.bel.size⟩)
        · intro l b W hI hl he K' hK
          refine opw_value (w' := W.alloc (.cells #[.int .i64 0, .int .u64 0, .int .i64 0, .int .i64 0] 29)) (.pointer (some ⟨W.heap.size, 0, none⟩)) (by kernel_rfl) ?_
          exact hK.out _ _ (hI.put 12 20 rfl rfl (by rw [hz]; decide) rfl hl rfl (Nat.le_refl _) (shSp_stb [102, 103, 104, 105, 106, 107, 108, 101, 109, 110, 111, 19, 20, 19, 20, 21] log at2 a n c zs sc x h nx V w18.heap.size) ((Below.refl _ _).alloc (Nat.le_refl _) _) ⟨W.heap.size, rfl, heap_alloc_new W _, hI.bel.size⟩)
        · intro l b W hI hl he K' hK
          obtain ⟨g, fb, hgb, hge⟩ := hI.got1 11 13 (of_decide_eq_true rfl) (edge he 11 (by kernel_rfl)) hl rfl
          have f := hI.got 8 (of_decide_eq_true rfl) (edge he 8 (by kernel_rfl)) rfl
          obtain ⟨ag, cg, f, ho⟩ := f
          refine wp_store_row 28 _ _ rfl g #[.int .i64 V.lg, .int .i64 V.sz, .int .u64 V.rt, .int .i64 V.at2, .slice ag V.sg.length cg] fb f 28 _ hgb (by kernel_rfl) rfl (by simp [Value.oneCell']) ?_
          have ht := setRow_touch W g #[.int .i64 V.lg, .int .i64 V.sz, .int .u64 V.rt, .int .i64 V.at2, .slice ag V.sg.length cg]
          exact hK.out _ _ (hI.store 13 (fun j hj => by
              rcases List.mem_singleton.1 hj with rfl
              exact edge he 11 (by kernel_rfl)) (hI.bel.trans (ht.below hge hI.bel.size)) (shSp_st13 [102, 103, 104, 105, 106, 107, 108, 101, 109, 110, 111, 19, 20, 19, 20, 21] log at2 a n c zs sc x h nx V w18.heap.size hgb ht) ⟨g, ag, cg, fb, setRow_heap W g _ _ _ _ hgb, hge, ⟨ownsRow_box ho.row hgb (by decide) ht, ho.byte⟩⟩)
        · intro l b W hI hl he K' hK
          obtain ⟨g, fb, hgb, hge⟩ := hI.got1 12 14 (of_decide_eq_true rfl) (edge he 12 (by kernel_rfl)) hl rfl
          have f := hI.got 9 (of_decide_eq_true rfl) (edge he 9 (by kernel_rfl)) rfl
          refine wp_store_row 29 _ _ rfl g #[.int .i64 V.t.1, .int .u64 V.t.2.1, .int .i64 V.t.2.2.1, .int .i64 V.t.2.2.2] fb f 29 _ hgb (by kernel_rfl) rfl (by simp [Value.oneCell']) ?_
          have ht := setRow_touch W g #[.int .i64 V.t.1, .int .u64 V.t.2.1, .int .i64 V.t.2.2.1, .int .i64 V.t.2.2.2]
          exact hK.out _ _ (hI.store 14 (fun j hj => by
              rcases List.mem_singleton.1 hj with rfl
              exact edge he 12 (by kernel_rfl)) (hI.bel.trans (ht.below hge hI.bel.size)) (shSp_st14 [102, 103, 104, 105, 106, 107, 108, 101, 109, 110, 111, 19, 20, 19, 20, 21] log at2 a n c zs sc x h nx V w18.heap.size hgb ht) ⟨g, fb, setRow_heap W g _ _ _ _ hgb, hge⟩)
        · intro l b W hI hl he K' hK
          have f := hI.got 10 (of_decide_eq_true rfl) (edge he 10 (by kernel_rfl)) rfl
          exact opw_assign 111 rfl (hK.out _ _ (hI.put 15 21 rfl rfl (by rw [hz]; decide) rfl hl rfl (Nat.le_refl _) (shSp_stb [102, 103, 104, 105, 106, 107, 108, 101, 109, 110, 111, 19, 20, 19, 20, 21] log at2 a n c zs sc x h nx V w18.heap.size) (Below.refl _ _) f))
      · intro b W hf hb F
        obtain ⟨gh, ag, cg, e9, hh, hB1, ho⟩ := F 13 (of_decide_eq_true rfl) rfl
        obtain ⟨gs, e10, hs, hB2⟩ := F 14 (of_decide_eq_true rfl) rfl
        have e11 := F 15 (of_decide_eq_true rfl) rfl
        replace e9 : aT b 19 = _ := e9
        replace e10 : aT b 20 = _ := e10
        replace e11 : aT b 21 = _ := e11
        have HB : Hid (BoxHS V w18.heap.size w18 (aT b 19) (aT b 20) (aT b 21) W) := ⟨gh, gs, ag, cg, e9, e10, e11, hh, hs, ho, hB1, hB2, hb⟩
        clear F e9 e10 e11 hh hs ho hB1 hB2 hb
        rw [hf.eq]
        generalize aT b = A at HB
        clear hf b
        simp only [puts, Act.put, List.setIfInBounds_toArray, List.set_cons_zero, List.set_cons_succ]
        go_wp2_with fail
        go_meet
        exact HB
    case rest =>
      obtain ⟨hh, hs, ah, ch, rfl, rfl, rfl, hgh, hgs, hoh, hlh2, hls2, hb22⟩ := hcut
      have HBH : Hid (wc.heap[hh]? = some (.cells #[.int .i64 V.lg, .int .i64 V.sz, .int .u64 V.rt, .int .i64 V.at2, .slice ah V.sg.length ch] 28 (0, 0))) := hgh
      have HBS : Hid (wc.heap[hs]? = some (.cells #[.int .i64 V.t.1, .int .u64 V.t.2.1, .int .i64 V.t.2.2.1, .int .i64 V.t.2.2.2] 29 (0, 0))) := hgs
      have HOH : Hid (Row wc ah V.sg.length V.sg) := hoh.toRow
      have HXE : Hid (_) := HX18.out.kept hb22
      have HWE : Hid (_) := HW18.out.kept hb22
      clear hgh hgs hoh
      obtain ⟨s0, s1, s2, s3, s4⟩ := cells5 HXE.out.wh
      obtain ⟨g0, g1, g2, g3, g4⟩ := cells5 HBH.out
      go_wp2_with fail
      refine (eqHead_same V.lg V.sz V.rt V.at2 ah aw V.sg.length ch cw V.sg _ HOH.out HWE.out (by omega)).mono ?_
      rintro e w24a ⟨rfl, hbw24a⟩
      clear s0 s1 s2 s3 s4 g0 g1 g2 g3 g4
      obtain ⟨s0, s1, s2, s3⟩ := cells4 ((hbw24a.block _ (Array.getElem?_eq_some_iff.1 HXE.out.ws).1).trans HXE.out.ws)
      obtain ⟨g0, g1, g2, g3⟩ := cells4 ((hbw24a.block _ (Array.getElem?_eq_some_iff.1 HBS.out).1).trans HBS.out)
      go_wp2_with fail
      refine (eqSecret_same V.t _).mono ?_
      rintro e w24 ⟨rfl, hbw24b⟩
      clear s0 s1 s2 s3 g0 g1 g2 g3
      have hbw24 := keepT hbw24a hbw24b
      clear hbw24a hbw24b
      have h18_24 := keepT hb22 hbw24
      obtain ⟨g0, g1, g2, g3, g4⟩ := cells5 (HX18.out.kept h18_24).gh'
      have HM24 : Hid (_) := HM18.out.kept h18_24
      go_wp2_with fail
      refine (heldHead_any V.lg V.sz V.rt V.at2 ag V.sg.length cg 1 _ HM24.out (by omega) (by decide) (by decide)).mono ?_
      rintro e w25 ⟨rfl, hb25⟩
      clear g0 g1 g2 g3 g4
      go_wp2
      go_ret
      exact ⟨rfl, keepT hb0 (keepT hc18 (keepT h18_24 hb25))⟩

end Go.Proofs.YtdahihomjpiiaaaGreat

namespace Go.Proofs.YtdahihomjpiiaaaGreat
open Go.RowKit

theorem lawSignHead_all (log at2 : Int) (a : Option Addr) (n c : Nat) (zs : List Int) (sc x h nx : Int) (w : World) (hx : U64 x) (hr : RowU w a n zs) (hmax : n ≤ 9223372036854775807) :
    Calls Tryz.prog 3 #[.int .i64 log, .slice a n c, .int .i64 at2, .agg #[.int .i64 sc, .int .u64 x, .int .i64 h, .int .i64 nx]] w fun e w' => e = .returned (.bool true) ∧ Below w.heap.size w w' :=
  lawSignHead_walk (fun seed h next am n c bs w hx hr hn => specTreeSign_any seed h next am n c bs w hx hr hn) log at2 a n c zs sc x h nx w hx hr hmax

end Go.Proofs.YtdahihomjpiiaaaGreat

