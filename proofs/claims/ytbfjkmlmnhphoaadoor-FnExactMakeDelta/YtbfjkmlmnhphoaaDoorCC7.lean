import Derived.Test.YtbfjkmlmnhphoaaDoorCC6
set_option linter.unusedVariables false
namespace Go.Proofs.YtbfjkmlmnhphoaaDoor
open Go.RowKit Go.Sort

/-- A list without its signature. -/
def noSig (x : CP) : CP := ⟨x.parts, x.num, x.base, x.tm, x.next, x.scope, x.ind, x.ents, []⟩
def zeroC : CP := ⟨[], 0, 0, 0, 0, 0, false, [], []⟩
theorem results_crl2 {fn : Func} {t u : Tmp} (h : fn.results = #[.cell t 36, .tmp u]) (tmps : Array Value) (g : Nat) (ht : tmps.getD t undef = .pointer (some ⟨g, 0, none⟩)) (w : World) (cs : Array Value) (hs : cs.size = 9)
    (hb : w.heap[g]? = some (.cells cs 36 (0, 0))) : (results fn tmps).run Tryd.prog w = .ok (.tuple #[.agg cs, tmps.getD u undef]) w := by
  have h1 := run_loadVar_row (P := Tryd.prog) w g 36 36 cs (0, 0) _ hb Tryd.underlying36 rfl (by rw [infoSizeCrl, hs])
  have ht' : tmps[t]?.getD undef = .pointer (some ⟨g, 0, none⟩) := by simpa using ht
  simp [results, h, ht', asAddr, h1]
theorem OwnQ.lowerC {B B' : Nat} {w : World} {a : Option Addr} {n cap : Nat} {sl : Nat → Sl} {pv : Nat → List Value} {vs : List Value} (h : OwnQ B w a n cap sl pv vs) (hB : B' ≤ B) : OwnQ B' w a n cap sl pv vs :=
  ⟨owns_monoC h.row hB, h.at0, fun j hj hp => owns_monoC (h.each j hj hp) hB, h.apart⟩
theorem OwnC.lowerC {B B' : Nat} {w : World} {a1 : Option Addr} {n1 c1 : Nat} {a2 : Option Addr} {n2 c2 : Nat} {a3 : Option Addr} {n3 c3 : Nat} {v1 : List Value} {sl : Nat → Sl} {pv : Nat → List Value} {vs : List Value} {bs : List Int} (h : OwnC B w a1 n1 c1 a2 n2 c2 a3 n3 c3 v1 sl pv vs bs) (hB : B' ≤ B) : OwnC B' w a1 n1 c1 a2 n2 c2 a3 n3 c3 v1 sl pv vs bs :=
  ⟨fun hp => owns_monoC (h.nm hp) hB, h.en.lowerC hB, h.sg.mono hB, h.ap⟩
/-- What unsigned answers: nothing of too many entries, else the list without its signature, all of it our own. -/
def UnsQ (w : World) (n1 n2 : Nat) (x : CP) (e : Ending) (w' : World) : Prop :=
  Below w.heap.size w w' ∧ ((60 < n2 ∧ e = .returned (.tuple #[crv none 0 0 none 0 0 none 0 0 zeroC, .int .i64 5])) ∨ (¬ 60 < n2 ∧ ∃ p1 d1 p2 d2 p3 d3 sl, e = .returned (.tuple #[crv p1 n1 d1 p2 n2 d2 p3 0 d3 (noSig x), .int .i64 0]) ∧ CrsT w.heap.size w' p1 n1 p2 n2 p3 0 (noSig x) ∧ OwnC w.heap.size w' p1 n1 d1 p2 n2 d2 p3 0 d3 (flPt x.parts) sl (fun j => flPt (x.ents.getD j default).parts) (flG x.ents sl n2) []))

set_option maxRecDepth 10000 in
set_option maxHeartbeats 4000000 in
theorem unsigned_any (a1 : Option Addr) (n1 c1 : Nat) (a2 : Option Addr) (n2 c2 : Nat) (a3 : Option Addr) (n3 c3 : Nat) (x : CP) (w : World) (h : Crs w a1 n1 a2 n2 a3 n3 x) (hz : CpOk n1 n2 n3 x) (hn1 : a1 = none → c1 = 0)
    (hc0 : ∀ k, k < n2 → ∀ b off an nn cn, a2 = some ⟨b, off, none⟩ → w.cell? ⟨b, off + k * 4, none⟩ = some (.slice an nn cn) → (an = none → cn = 0) ∧ nn ≤ 1048576) :
    Calls Tryd.prog 49 #[crv a1 n1 c1 a2 n2 c2 a3 n3 c3 x] w fun e w' => UnsQ w n1 n2 x e w' := by
  obtain ⟨w1, hw1⟩ : ∃ w1, w1 = (w.alloc (.cells #[.slice a1 n1 c1, .int .i64 x.num, .int .i64 x.base, .int .i64 x.tm, .int .i64 x.next, .int .i64 x.scope, .bool x.ind, .slice a2 n2 c2, .slice a3 n3 c3] 36)).alloc (.cells #[.slice none 0 0, .int .i64 0, .int .i64 0, .int .i64 0, .int .i64 0, .int .i64 0, .bool false, .slice none 0 0, .slice none 0 0] 36) := ⟨_, rfl⟩
  have hbb : Below w.heap.size w w1 := by rw [hw1]; exact ((Below.refl _ _).alloc (Nat.le_refl _) _).alloc (by simp) _
  have hB1 : w1.heap[w.heap.size]? = some (.cells #[.slice a1 n1 c1, .int .i64 x.num, .int .i64 x.base, .int .i64 x.tm, .int .i64 x.next, .int .i64 x.scope, .bool x.ind, .slice a2 n2 c2, .slice a3 n3 c3] 36 (0, 0)) ∧ w1.heap[w.heap.size + 1]? = some (.cells #[.slice none 0 0, .int .i64 0, .int .i64 0, .int .i64 0, .int .i64 0, .int .i64 0, .bool false, .slice none 0 0, .slice none 0 0] 36 (0, 0)) := by rw [hw1]; exact two_blocks w _ _
  have hs1 : w1.heap.size = w.heap.size + 2 := by rw [hw1]; simp
  have HZ : Hid (CpOk n1 n2 n3 x) := hz
  have HRK : Hid (∀ W, Below w.heap.size w W → Crs W a1 n1 a2 n2 none 0 (noSig x) ∧ ∀ k, k < n2 → ∀ b off an nn cn, a2 = some ⟨b, off, none⟩ → W.cell? ⟨b, off + k * 4, none⟩ = some (.slice an nn cn) → (an = none → cn = 0) ∧ nn ≤ 1048576) := fun W hb2 => by
    have hk := h.kept hb2
    refine ⟨⟨hk.nm, hk.en, ⟨rfl, fun k hk => by omega, by simp [noSig]⟩, by omega⟩, fun k hk b off an nn cn e hc => hc0 k hk b off an nn cn e ?_⟩
    obtain ⟨b', off', _, _, _, e', hlt, _⟩ := h.en.get k hk
    rw [e] at e'
    simp only [Option.some.injEq, Addr.mk.injEq] at e'
    obtain ⟨rfl, _, _⟩ := e'
    rw [← hb2.cell (p := ⟨b, off + k * 4, none⟩) hlt]
    exact hc
  have HB1 : Hid (_ ∧ _) := hB1
  have HBW : Hid (Below w.heap.size w w1) := hbb
  have HW : Hid (_ = _) := hw1
  have x7 : w1.cell? ⟨w.heap.size, 7, none⟩ = some (.slice a2 n2 c2) := (cell_of_row _ _ 7 _ _ (0, 0) HB1.out.1).trans rfl
  clear hw1 h hc0 hz hB1 hbb
  unfold crv
  go_enter Tryd.func49, Tryd.ntmps49
  go_upto_region 1 with fail
  rw [← HW.out]
  clear HW
  by_cases hn : 60 < n2
  · have hni : (60 : Int) < (n2 : Int) := by omega
    go_wp2_with (refine wpList_store_rowTo rfl 36 _ _ rfl rfl (w.heap.size + 1) #[.slice none 0 0, .int .i64 0, .int .i64 0, .int .i64 0, .int .i64 0, .int .i64 0, .bool false, .slice none 0 0, .slice none 0 0] rfl rfl 36 #[.slice none 0 0, .int .i64 0, .int .i64 0, .int .i64 0, .int .i64 0, .int .i64 0, .bool false, .slice none 0 0, .slice none 0 0] HB1.out.2 infoSizeCrl rfl (by simp [Value.oneCell']) ?_)
    have q6 := setRow_heap w1 (w.heap.size + 1) _ #[.slice none 0 0, .int .i64 0, .int .i64 0, .int .i64 0, .int .i64 0, .int .i64 0, .bool false, .slice none 0 0, .slice none 0 0] 36 (0, 0) HB1.out.2
    have tt := setRow_touch w1 (w.heap.size + 1) #[.slice none 0 0, .int .i64 0, .int .i64 0, .int .i64 0, .int .i64 0, .int .i64 0, .bool false, .slice none 0 0, .slice none 0 0]
    try simp only [Exit.inBlock, Exit.then]
    exact bodyPost_ret (results_crl2 (by rfl) _ (w.heap.size + 1) rfl _ _ rfl q6) rfl ⟨HBW.out.trans (tt.below (by omega) HBW.out.size), .inl ⟨hn, rfl⟩⟩
  · have hni : ¬ (60 : Int) < (n2 : Int) := by omega
    have y8 : w1.cell? ⟨w.heap.size, 8, none⟩ = some (.slice a3 n3 c3) := (cell_of_row _ _ 8 _ _ (0, 0) HB1.out.1).trans rfl
    have fz8 : w1.frozen? ⟨w.heap.size, 8, none⟩ = false := frozen_of_row w1 _ 8 _ _ HB1.out.1
    obtain ⟨w2, hw2⟩ : ∃ w2, w2 = w1.setCell ⟨w.heap.size, 8, none⟩ (.slice none 0 0) := ⟨_, rfl⟩
    have t2 : Touch w.heap.size (w.heap.size + 1) w1 w2 := by rw [hw2]; exact touch_setC _ _ _ _ (Nat.le_refl _) (Nat.lt_succ_self _)
    have hbx2 : w2.heap[w.heap.size]? = some (.cells #[.slice a1 n1 c1, .int .i64 x.num, .int .i64 x.base, .int .i64 x.tm, .int .i64 x.next, .int .i64 x.scope, .bool x.ind, .slice a2 n2 c2, .slice none 0 0] 36 (0, 0)) := by rw [hw2]; exact (heap_setCell_same w1 w.heap.size 8 _ _ _ HB1.out.1).trans rfl
    have hbr2 := (t2.block (w.heap.size + 1) (by omega) (.inr (Nat.le_refl _))).trans HB1.out.2
    have HB2 : Hid (Below w.heap.size w w2) := HBW.out.trans (t2.below (Nat.le_refl _) HBW.out.size)
    have hs2 : w2.heap.size = w.heap.size + 2 := by rw [hw2]; simpa using hs1
    have HX2 : Hid (_ ∧ _) := ⟨hbx2, hbr2⟩
    have HW2 : Hid (_ = _) := hw2
    clear hw2 t2 hbx2 hbr2
    go_upto_region 4 with fail
    rw [← HW2.out]
    clear HW2 x7 y8 fz8 HB1 HBW hs1
    have HC : Hid (_) := cloneCrl_any a1 n1 c1 a2 n2 c2 none 0 0 (noSig x) w2 (HRK.out _ HB2.out).1 ⟨HZ.out.1, HZ.out.2.1, HZ.out.2.2.1, HZ.out.2.2.2.1, by omega⟩ hn1 (fun _ => rfl) (HRK.out _ HB2.out).2
    unfold crv at HC
    go_wp2_with (first | (refine wpList_load_row rfl 36 _ rfl w.heap.size rfl 36 #[.slice a1 n1 c1, .int .i64 x.num, .int .i64 x.base, .int .i64 x.tm, .int .i64 x.next, .int .i64 x.scope, .bool x.ind, .slice a2 n2 c2, .slice none 0 0] (0, 0) _ HX2.out.1 Tryd.underlying36 rfl infoSizeCrl ?_) | (go_at_call 77; refine Calls.mono HC.out ?_; rintro e w3 ⟨p1, d1, p2, d2, p3, d3, sl, rfl, hcr, hown, hb3⟩; have HF : Hid (_ ∧ _ ∧ _) := ⟨hcr, hown, hb3⟩; have hbr3 : w3.heap[w.heap.size + 1]? = some (.cells #[.slice none 0 0, .int .i64 0, .int .i64 0, .int .i64 0, .int .i64 0, .int .i64 0, .bool false, .slice none 0 0, .slice none 0 0] 36 (0, 0)) := (hb3.block (w.heap.size + 1) (by omega)).trans HX2.out.2; have HR3 : Hid (_ = _) := hbr3; clear hcr hown hb3 hbr3) | (refine wpList_store_rowTo rfl 36 _ _ rfl rfl (w.heap.size + 1) #[.slice p1 n1 d1, .int .i64 x.num, .int .i64 x.base, .int .i64 x.tm, .int .i64 x.next, .int .i64 x.scope, .bool x.ind, .slice p2 n2 d2, .slice p3 0 d3] rfl rfl 36 #[.slice none 0 0, .int .i64 0, .int .i64 0, .int .i64 0, .int .i64 0, .int .i64 0, .bool false, .slice none 0 0, .slice none 0 0] HR3.out infoSizeCrl rfl (by simp [Value.oneCell']) ?_))
    have q6 := setRow_heap w3 (w.heap.size + 1) _ #[.slice p1 n1 d1, .int .i64 x.num, .int .i64 x.base, .int .i64 x.tm, .int .i64 x.next, .int .i64 x.scope, .bool x.ind, .slice p2 n2 d2, .slice p3 0 d3] 36 (0, 0) HR3.out
    have tt := setRow_touch w3 (w.heap.size + 1) #[.slice p1 n1 d1, .int .i64 x.num, .int .i64 x.base, .int .i64 x.tm, .int .i64 x.next, .int .i64 x.scope, .bool x.ind, .slice p2 n2 d2, .slice p3 0 d3]
    try simp only [Exit.inBlock, Exit.then]
    have B3 := HB2.out.trans (HF.out.2.2.mono HB2.out.size)
    have hlow := HF.out.2.1.low (S := fun i => i = w.heap.size + 1) ⟨tt.os, tt.tape, tt.output, tt.size, fun l hl hne => tt.block l hl (by omega)⟩ (fun i hi => by omega)
    have hcr2 : CrsT w.heap.size (w3.setRow (w.heap.size + 1) #[.slice p1 n1 d1, .int .i64 x.num, .int .i64 x.base, .int .i64 x.tm, .int .i64 x.next, .int .i64 x.scope, .bool x.ind, .slice p2 n2 d2, .slice p3 0 d3]) p1 n1 p2 n2 p3 0 (noSig x) := HF.out.1.on tt (by omega) (by omega)
    exact bodyPost_ret (results_crl2 (by rfl) _ (w.heap.size + 1) rfl _ _ rfl q6) rfl ⟨B3.trans (tt.below (by omega) B3.size), .inr ⟨hn, p1, d1, p2, d2, p3, d3, sl, rfl, hcr2, hlow.lowerC (by omega)⟩⟩

end Go.Proofs.YtbfjkmlmnhphoaaDoor
