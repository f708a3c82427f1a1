import Derived.Test.YtbfjkmlmnhphoaaDoorCC6
import Derived.Test.YtbfjkmlmnhphoaaDoorMD9
import Derived.Test.YtbfjkmlmnhphoaaDoorMDD
set_option linter.unusedVariables false
namespace Go.Proofs.YtbfjkmlmnhphoaaDoor
open Go.RowKit Go.Sort

/-- A list without its signature. -/
def noSig (x : CP) : CP := ⟨x.parts, x.num, x.base, x.tm, x.next, x.scope, x.ind, x.ents, []⟩
def zeroC : CP := ⟨[], 0, 0, 0, 0, 0, false, [], []⟩
theorem results_crl2 {fn : Func} {t u : Tmp} (h : fn.results = #[.cell t 36, .tmp u]) (tmps : Array Value) (g : Nat) (ht : tmps.getD t undef = .pointer (some ⟨g, 0, none⟩)) (w : World) (cs : Array Value) (hs : cs.size = 9)
    (hb : w.heap[g]? = some (.cells cs 36 (0, 0))) : (results fn tmps).run Tryd.prog w = .ok (.tuple #[.agg cs, tmps.getD u undef]) w := by
  have h1 := run_loadVar_row (P := Tryd.prog) w g 36 36 cs (0, 0) _ hb Tryd.underlying36 rfl (by rw [infoSizeCrl, hs])
  have ht' : tmps[t]?.getD undef = .pointer (some ⟨g, 0, none⟩) := by simpa using ht
  simp [results, h, ht', asAddr, h1]
theorem OwnQ.lowerC {B B' : Nat} {w : World} {a : Option Addr} {n cap : Nat} {sl : Nat → Sl} {pv : Nat → List Value} {vs : List Value} (h : OwnQ B w a n cap sl pv vs) (hB : B' ≤ B) : OwnQ B' w a n cap sl pv vs :=
  ⟨owns_monoC h.row hB, h.at0, fun j hj hp => owns_monoC (h.each j hj hp) hB, h.apart⟩
theorem OwnC.lowerC {B B' : Nat} {w : World} {a1 : Option Addr} {n1 c1 : Nat} {a2 : Option Addr} {n2 c2 : Nat} {a3 : Option Addr} {n3 c3 : Nat} {v1 : List Value} {sl : Nat → Sl} {pv : Nat → List Value} {vs : List Value} {bs : List Int} (h : OwnC B w a1 n1 c1 a2 n2 c2 a3 n3 c3 v1 sl pv vs bs) (hB : B' ≤ B) : OwnC B' w a1 n1 c1 a2 n2 c2 a3 n3 c3 v1 sl pv vs bs :=
  ⟨fun hp => owns_monoC (h.nm hp) hB, h.en.lowerC hB, h.sg.mono hB, h.ap⟩
/-- What unsigned answers: nothing of too many entries, else the list without its signature, all of it our own. -/
def UnsQ (w : World) (n1 n2 : Nat) (x : CP) (e : Ending) (w' : World) : Prop :=
  Below w.heap.size w w' ∧ ((60 < n2 ∧ e = .returned (.tuple #[crv none 0 0 none 0 0 none 0 0 zeroC, .int .i64 5])) ∨ (¬ 60 < n2 ∧ ∃ p1 d1 p2 d2 p3 d3 sl, e = .returned (.tuple #[crv p1 n1 d1 p2 n2 d2 p3 0 d3 (noSig x), .int .i64 0]) ∧ CrsT w.heap.size w' p1 n1 p2 n2 p3 0 (noSig x) ∧ OwnC w.heap.size w' p1 n1 d1 p2 n2 d2 p3 0 d3 (flPt x.parts) sl (fun j => flPt (x.ents.getD j default).parts) (flG x.ents sl n2) []))

set_option maxRecDepth 10000 in
set_option maxHeartbeats 4000000 in
theorem unsigned_any (a1 : Option Addr) (n1 c1 : Nat) (a2 : Option Addr) (n2 c2 : Nat) (a3 : Option Addr) (n3 c3 : Nat) (x : CP) (w : World) (h : Crs w a1 n1 a2 n2 a3 n3 x) (hz : CpOk n1 n2 n3 x) (hn1 : a1 = none → c1 = 0)
    (hc0 : ∀ k, k < n2 → ∀ b off an nn cn, a2 = some ⟨b, off, none⟩ → w.cell? ⟨b, off + k * 4, none⟩ = some (.slice an nn cn) → (an = none → cn = 0) ∧ nn ≤ 1048576) :
    Calls Tryd.prog 49 #[crv a1 n1 c1 a2 n2 c2 a3 n3 c3 x] w fun e w' => UnsQ w n1 n2 x e w' := by
  obtain ⟨w1, hw1⟩ : ∃ w1, w1 = (w.alloc (.cells #[.slice a1 n1 c1, .int .i64 x.num, .int .i64 x.base, .int .i64 x.tm, .int .i64 x.next, .int .i64 x.scope, .bool x.ind, .slice a2 n2 c2, .slice a3 n3 c3] 36)).alloc (.cells #[.slice none 0 0, .int .i64 0, .int .i64 0, .int .i64 0, .int .i64 0, .int .i64 0, .bool false, .slice none 0 0, .slice none 0 0] 36) := ⟨_, rfl⟩
  have hbb : Below w.heap.size w w1 := by rw [hw1]; exact ((Below.refl _ _).alloc (Nat.le_refl _) _).alloc (by simp) _
  have hB1 : w1.heap[w.heap.size]? = some (.cells #[.slice a1 n1 c1, .int .i64 x.num, .int .i64 x.base, .int .i64 x.tm, .int .i64 x.next, .int .i64 x.scope, .bool x.ind, .slice a2 n2 c2, .slice a3 n3 c3] 36 (0, 0)) ∧ w1.heap[w.heap.size + 1]? = some (.cells #[.slice none 0 0, .int .i64 0, .int .i64 0, .int .i64 0, .int .i64 0, .int .i64 0, .bool false, .slice none 0 0, .slice none 0 0] 36 (0, 0)) := by rw [hw1]; exact two_blocks w _ _
  have hs1 : w1.heap.size = w.heap.size + 2 := by rw [hw1]; simp
  have HZ : Hid (CpOk n1 n2 n3 x) := hz
  have HRK : Hid (∀ W, Below w.heap.size w W → Crs W a1 n1 a2 n2 none 0 (noSig x) ∧ ∀ k, k < n2 → ∀ b off an nn cn, a2 = some ⟨b, off, none⟩ → W.cell? ⟨b, off + k * 4, none⟩ = some (.slice an nn cn) → (an = none → cn = 0) ∧ nn ≤ 1048576) := fun W hb2 => by
    have hk := h.kept hb2
    refine ⟨⟨hk.nm, hk.en, ⟨rfl, fun k hk => by omega, by simp [noSig]⟩, by omega⟩, fun k hk b off an nn cn e hc => hc0 k hk b off an nn cn e ?_⟩
    obtain ⟨b', off', _, _, _, e', hlt, _⟩ := h.en.get k hk
    rw [e] at e'
    simp only [Option.some.injEq, Addr.mk.injEq] at e'
    obtain ⟨rfl, _, _⟩ := e'
    rw [← hb2.cell (p := ⟨b, off + k * 4, none⟩) hlt]
    exact hc
  have HB1 : Hid (_ ∧ _) := hB1
  have HBW : Hid (Below w.heap.size w w1) := hbb
  have HW : Hid (_ = _) := hw1
  have x7 : w1.cell? ⟨w.heap.size, 7, none⟩ = some (.slice a2 n2 c2) := (cell_of_row _ _ 7 _ _ (0, 0) HB1.out.1).trans rfl
  clear hw1 h hc0 hz hB1 hbb
  unfold crv
  go_enter Tryd.func49, Tryd.ntmps49
  go_upto_region 1 with fail
  rw [← HW.out]
  clear HW
  by_cases hn : 60 < n2
  · have hni : (60 : Int) < (n2 : Int) := by omega
    go_wp2_with (refine wpList_store_rowTo rfl 36 _ _ rfl rfl (w.heap.size + 1) #[.slice none 0 0, .int .i64 0, .int .i64 0, .int .i64 0, .int .i64 0, .int .i64 0, .bool false, .slice none 0 0, .slice none 0 0] rfl rfl 36 #[.slice none 0 0, .int .i64 0, .int .i64 0, .int .i64 0, .int .i64 0, .int .i64 0, .bool false, .slice none 0 0, .slice none 0 0] HB1.out.2 infoSizeCrl rfl (by simp [Value.oneCell']) ?_)
    have q6 := setRow_heap w1 (w.heap.size + 1) _ #[.slice none 0 0, .int .i64 0, .int .i64 0, .int .i64 0, .int .i64 0, .int .i64 0, .bool false, .slice none 0 0, .slice none 0 0] 36 (0, 0) HB1.out.2
    have tt := setRow_touch w1 (w.heap.size + 1) #[.slice none 0 0, .int .i64 0, .int .i64 0, .int .i64 0, .int .i64 0, .int .i64 0, .bool false, .slice none 0 0, .slice none 0 0]
    try simp only [Exit.inBlock, Exit.then]
    exact bodyPost_ret (results_crl2 (by rfl) _ (w.heap.size + 1) rfl _ _ rfl q6) rfl ⟨HBW.out.trans (tt.below (by omega) HBW.out.size), .inl ⟨hn, rfl⟩⟩
  · have hni : ¬ (60 : Int) < (n2 : Int) := by omega
    have y8 : w1.cell? ⟨w.heap.size, 8, none⟩ = some (.slice a3 n3 c3) := (cell_of_row _ _ 8 _ _ (0, 0) HB1.out.1).trans rfl
    have fz8 : w1.frozen? ⟨w.heap.size, 8, none⟩ = false := frozen_of_row w1 _ 8 _ _ HB1.out.1
    obtain ⟨w2, hw2⟩ : ∃ w2, w2 = w1.setCell ⟨w.heap.size, 8, none⟩ (.slice none 0 0) := ⟨_, rfl⟩
    have t2 : Touch w.heap.size (w.heap.size + 1) w1 w2 := by rw [hw2]; exact touch_setC _ _ _ _ (Nat.le_refl _) (Nat.lt_succ_self _)
    have hbx2 : w2.heap[w.heap.size]? = some (.cells #[.slice a1 n1 c1, .int .i64 x.num, .int .i64 x.base, .int .i64 x.tm, .int .i64 x.next, .int .i64 x.scope, .bool x.ind, .slice a2 n2 c2, .slice none 0 0] 36 (0, 0)) := by rw [hw2]; exact (heap_setCell_same w1 w.heap.size 8 _ _ _ HB1.out.1).trans rfl
    have hbr2 := (t2.block (w.heap.size + 1) (by omega) (.inr (Nat.le_refl _))).trans HB1.out.2
    have HB2 : Hid (Below w.heap.size w w2) := HBW.out.trans (t2.below (Nat.le_refl _) HBW.out.size)
    have hs2 : w2.heap.size = w.heap.size + 2 := by rw [hw2]; simpa using hs1
    have HX2 : Hid (_ ∧ _) := ⟨hbx2, hbr2⟩
    have HW2 : Hid (_ = _) := hw2
    clear hw2 t2 hbx2 hbr2
    go_upto_region 4 with fail
    rw [← HW2.out]
    clear HW2 x7 y8 fz8 HB1 HBW hs1
    have HC : Hid (_) := cloneCrl_any a1 n1 c1 a2 n2 c2 none 0 0 (noSig x) w2 (HRK.out _ HB2.out).1 ⟨HZ.out.1, HZ.out.2.1, HZ.out.2.2.1, HZ.out.2.2.2.1, by omega⟩ hn1 (fun _ => rfl) (HRK.out _ HB2.out).2
    unfold crv at HC
    go_wp2_with (first | (refine wpList_load_row rfl 36 _ rfl w.heap.size rfl 36 #[.slice a1 n1 c1, .int .i64 x.num, .int .i64 x.base, .int .i64 x.tm, .int .i64 x.next, .int .i64 x.scope, .bool x.ind, .slice a2 n2 c2, .slice none 0 0] (0, 0) _ HX2.out.1 Tryd.underlying36 rfl infoSizeCrl ?_) | (go_at_call 77; refine Calls.mono HC.out ?_; rintro e w3 ⟨p1, d1, p2, d2, p3, d3, sl, rfl, hcr, hown, hb3⟩; have HF : Hid (_ ∧ _ ∧ _) := ⟨hcr, hown, hb3⟩; have hbr3 : w3.heap[w.heap.size + 1]? = some (.cells #[.slice none 0 0, .int .i64 0, .int .i64 0, .int .i64 0, .int .i64 0, .int .i64 0, .bool false, .slice none 0 0, .slice none 0 0] 36 (0, 0)) := (hb3.block (w.heap.size + 1) (by omega)).trans HX2.out.2; have HR3 : Hid (_ = _) := hbr3; clear hcr hown hb3 hbr3) | (refine wpList_store_rowTo rfl 36 _ _ rfl rfl (w.heap.size + 1) #[.slice p1 n1 d1, .int .i64 x.num, .int .i64 x.base, .int .i64 x.tm, .int .i64 x.next, .int .i64 x.scope, .bool x.ind, .slice p2 n2 d2, .slice p3 0 d3] rfl rfl 36 #[.slice none 0 0, .int .i64 0, .int .i64 0, .int .i64 0, .int .i64 0, .int .i64 0, .bool false, .slice none 0 0, .slice none 0 0] HR3.out infoSizeCrl rfl (by simp [Value.oneCell']) ?_))
    have q6 := setRow_heap w3 (w.heap.size + 1) _ #[.slice p1 n1 d1, .int .i64 x.num, .int .i64 x.base, .int .i64 x.tm, .int .i64 x.next, .int .i64 x.scope, .bool x.ind, .slice p2 n2 d2, .slice p3 0 d3] 36 (0, 0) HR3.out
    have tt := setRow_touch w3 (w.heap.size + 1) #[.slice p1 n1 d1, .int .i64 x.num, .int .i64 x.base, .int .i64 x.tm, .int .i64 x.next, .int .i64 x.scope, .bool x.ind, .slice p2 n2 d2, .slice p3 0 d3]
    try simp only [Exit.inBlock, Exit.then]
    have B3 := HB2.out.trans (HF.out.2.2.mono HB2.out.size)
    have hlow := HF.out.2.1.low (S := fun i => i = w.heap.size + 1) ⟨tt.os, tt.tape, tt.output, tt.size, fun l hl hne => tt.block l hl (by omega)⟩ (fun i hi => by omega)
    have hcr2 : CrsT w.heap.size (w3.setRow (w.heap.size + 1) #[.slice p1 n1 d1, .int .i64 x.num, .int .i64 x.base, .int .i64 x.tm, .int .i64 x.next, .int .i64 x.scope, .bool x.ind, .slice p2 n2 d2, .slice p3 0 d3]) p1 n1 p2 n2 p3 0 (noSig x) := HF.out.1.on tt (by omega) (by omega)
    exact bodyPost_ret (results_crl2 (by rfl) _ (w.heap.size + 1) rfl _ _ rfl q6) rfl ⟨B3.trans (tt.below (by omega) B3.size), .inr ⟨hn, p1, d1, p2, d2, p3, d3, sl, rfl, hcr2, hlow.lowerC (by omega)⟩⟩

end Go.Proofs.YtbfjkmlmnhphoaaDoor

set_option linter.unusedVariables false
namespace Go.Proofs.YtbfjkmlmnhphoaaDoor
open Go.RowKit Go.Sort

theorem owns_none {w : World} {B t s n c : Nat} {a : Option Addr} {vs : List Value} (h : w.ownsRow B t s (.slice a n c) n vs) (e : a = none) : n = 0 ∧ c = 0 := by
  rcases h.2 with ⟨q, _⟩ | ⟨g, c1, cur, h1, _⟩
  · simp only [Value.slice.injEq] at q
    exact ⟨q.2.1, q.2.2⟩
  · simp only [Value.slice.injEq] at h1
    rw [e] at h1
    simp at h1
/-- An entry's slice is as long as its parts are many. -/
theorem own_slen {B : Nat} {w : World} {a : Option Addr} {n c : Nat} {xs : List GP} {sl : Nat → Sl} {pv : Nat → List Value} {vs : List Value} (h : OwnQ B w a n c sl pv vs) (hr : Gns w a n xs) (j : Nat) (hj : j < n) : (sl j).2.1 = (xs.getD j default).parts.length := by
  obtain ⟨b, off, an, nn, cn, e, hlb, hc, hp⟩ := hr.get j hj
  obtain ⟨g, e2, _, hg⟩ := ownsRow_shape h.row (by omega)
  have e3 := e2.symm.trans e
  simp only [Option.some.injEq, Addr.mk.injEq] at e3
  obtain ⟨rfl, rfl, _⟩ := e3
  have hrow := h.row
  rw [e2] at hrow
  have h0 := (hrow.cellAt (j * 4) (by omega)).trans (h.at0 j hj)
  have h1 := hc.1
  rw [Nat.zero_add] at h1
  rw [h0] at h1
  simp only [Option.some.injEq, Value.slice.injEq] at h1
  rw [h1.2.1]
  exact hp.len.symm
/-- What is asked of a list's slices besides what they say. -/
structure CapsC (w : World) (a1 : Option Addr) (n1 : Nat) (a2 : Option Addr) (n2 : Nat) (a3 : Option Addr) (n3 : Nat) : Prop where
  nm : a1 = none → n1 = 0
  sg : a3 = none → n3 = 0
  en : ∀ k, k < n2 → ∀ b off an nn cn, a2 = some ⟨b, off, none⟩ → w.cell? ⟨b, off + k * 4, none⟩ = some (.slice an nn cn) → (an = none → cn = 0) ∧ nn ≤ 1048576
structure CrG (w : World) (a1 : Option Addr) (n1 : Nat) (a2 : Option Addr) (n2 : Nat) (a3 : Option Addr) (n3 : Nat) (x : CP) : Prop where
  crs : Crs w a1 n1 a2 n2 a3 n3 x
  caps : CapsC w a1 n1 a2 n2 a3 n3
theorem CrG.kept {w w' : World} {a1 : Option Addr} {n1 : Nat} {a2 : Option Addr} {n2 : Nat} {a3 : Option Addr} {n3 : Nat} {x : CP} (h : CrG w a1 n1 a2 n2 a3 n3 x) (hb : Below w.heap.size w w') : CrG w' a1 n1 a2 n2 a3 n3 x := by
  refine ⟨h.crs.kept hb, h.caps.nm, h.caps.sg, fun k hk b off an nn cn e hc => ?_⟩
  obtain ⟨b', off', an', nn', cn', e', hlb, hc', hp⟩ := h.crs.en.get k hk
  have e3 := e.symm.trans e'
  simp only [Option.some.injEq, Addr.mk.injEq] at e3
  obtain ⟨rfl, rfl, _⟩ := e3
  refine h.caps.en k hk b off an nn cn e ?_
  rw [← hb.cell (p := ⟨b, off + k * 4, none⟩) hlb]
  exact hc
theorem crG_of {B : Nat} {w : World} {a1 : Option Addr} {n1 : Nat} {a2 : Option Addr} {n2 : Nat} {a3 : Option Addr} {n3 : Nat} {x : CP} {v1 : List Value} {sl : Nat → Sl} {pv : Nat → List Value} {vs : List Value} (h : Crs w a1 n1 a2 n2 a3 n3 x) (hz : CpOk n1 n2 n3 x) (ho : OwnC B w a1 n1 n1 a2 n2 n2 a3 n3 n3 v1 sl pv vs x.sig) (hs : ∀ j, j < n2 → (sl j).1 = none → (sl j).2.2 = 0) : CrG w a1 n1 a2 n2 a3 n3 x := by
  refine ⟨h, fun e => ?_, fun e => (owns_none ho.sg.row e).1, fun k hk b off an nn cn e hc => ?_⟩
  · rcases Nat.eq_zero_or_pos n1 with q | q
    · exact q
    · exact (owns_none (ho.nm q) e).1
  · obtain ⟨g, e2, _, hg⟩ := ownsRow_shape ho.en.row (by omega)
    have e3 := e2.symm.trans e
    simp only [Option.some.injEq, Addr.mk.injEq] at e3
    obtain ⟨rfl, rfl, _⟩ := e3
    have hrow := ho.en.row
    rw [e2] at hrow
    have h0 := (hrow.cellAt (k * 4) (by omega)).trans (ho.en.at0 k hk)
    rw [Nat.zero_add] at hc
    rw [h0] at hc
    simp only [Option.some.injEq, Value.slice.injEq] at hc
    obtain ⟨h1, h2, h3⟩ := hc
    refine ⟨fun e => ?_, ?_⟩
    · rw [← h3]; exact hs k hk (h1.trans e)
    · rw [← h2, own_slen ho.en h.en k hk]; exact (hz.2.2.2.1 k hk).1
theorem nxQ_top (sl : Nat → Sl) (k M : Nat) : ∀ n, (∀ j, j < n → (sl j).2.1 ≤ M) → nxQ sl k n ≤ k + n * (2 * M + 3)
  | 0, _ => by simp [nxQ]
  | n + 1, h => by
    have h1 := nxQ_top sl k M n (fun j hj => h j (by omega))
    have h2 := h n (by omega)
    have e : (n + 1) * (2 * M + 3) = n * (2 * M + 3) + (2 * M + 3) := Nat.succ_mul _ _
    rw [e]
    simp only [nxQ]
    omega
/-- The count stays small. -/
theorem nxQ_small {sl : Nat → Sl} {k n1 n2 : Nat} (hk : k ≤ 100000000000000) (h1 : n1 ≤ 1048576) (h2 : n2 ≤ 1048576) (hs : ∀ j, j < n2 → (sl j).2.1 ≤ 1048576) : nxQ sl (k + 2 * n1) n2 ≤ k + 2199029400000 := by
  have h := nxQ_top sl (k + 2 * n1) 1048576 n2 hs
  have h3 : n2 * (2 * 1048576 + 3) ≤ 1048576 * (2 * 1048576 + 3) := Nat.mul_le_mul_right _ h2
  omega

set_option maxHeartbeats 1000000 in
/-- A copy of an argument: it says the same, it is ours. -/
theorem toCrl_g (a1 : Option Addr) (n1 c1 : Nat) (a2 : Option Addr) (n2 c2 : Nat) (a3 : Option Addr) (n3 c3 : Nat) (x : CP) (w : World) (h : Crs w a1 n1 a2 n2 a3 n3 x) (hz : CpOk n1 n2 n3 x) :
    Calls Tryd.prog 9 #[crv a1 n1 c1 a2 n2 c2 a3 n3 c3 x] w fun e w' => ∃ b1 b2 b3, e = .returned (crv b1 n1 n1 b2 n2 n2 b3 n3 n3 x) ∧ CrG w' b1 n1 b2 n2 b3 n3 x ∧ (∃ v1 sl pv vs, OwnC w.heap.size w' b1 n1 n1 b2 n2 n2 b3 n3 n3 v1 sl pv vs x.sig ∧ ∀ j, j < n2 → (sl j).2.1 ≤ 1048576) ∧ Below w.heap.size w w' := by
  refine (toCrl_own a1 n1 c1 a2 n2 c2 a3 n3 c3 x w h hz).mono ?_
  rintro e w' ⟨b1, b2, b3, rfl, hk, hb⟩
  obtain ⟨hc, v1, sl, pv, vs, ho, hs⟩ := hk.now
  exact ⟨b1, b2, b3, rfl, crG_of hc hz ho (fun j hj => (hs j hj).2), ⟨v1, sl, pv, vs, ho, fun j hj => by rw [(hs j hj).1]; exact (hz.2.2.2.1 j hj).1⟩, hb⟩
/-- Only blocks from lo on may have turned: what lies below stays. -/
theorem TouchS.below_lo {S : Nat → Prop} {w w1 w2 : World} {lo : Nat} (hb : Below lo w w1) (h : TouchS S w1 w2) (hS : ∀ i, S i → lo ≤ i) (hl : lo ≤ w1.heap.size) : Below lo w w2 := by
  refine ⟨h.os.trans hb.os, h.tape.trans hb.tape, h.output.trans hb.output, Nat.le_trans hb.size h.size, fun i hi => ?_⟩
  exact (h.block i (by omega) (fun q => by have := hS i q; omega)).trans (hb.block i hi)
theorem TouchS.touch {w w1 : World} {lo hi : Nat} (h : TouchS (fun i => lo ≤ i ∧ i < hi) w w1) : Touch lo hi w w1 :=
  ⟨h.os, h.tape, h.output, h.size, fun i hi hd => h.block i hi (fun q => by omega)⟩
theorem TouchA_of {w w2 : World} {g : Nat} (ht : Touch g (g + 1) w w2) : TouchS (fun i => i = g) w w2 := ⟨ht.os, ht.tape, ht.output, ht.size, fun i hi hd => ht.block i hi (by omega)⟩
/-- Two rows of other types are other blocks. -/
theorem owns_typed {w w2 : World} {B t s m c g tg : Nat} {b : Option Addr} {vs : List Value} {cs : Array Value} {fr : Nat × Nat} (h : w.ownsRow B t s (.slice b m c) m vs) (hg : w.heap[g]? = some (.cells cs tg fr)) (hne : tg ≠ t) (ht : Touch g (g + 1) w w2) : w2.ownsRow B t s (.slice b m c) m vs := by
  refine ⟨h.1, ?_⟩
  rcases h.2 with h0 | ⟨g', cap, cur, hv, hb, hh, rest⟩
  · exact .inl h0
  · refine .inr ⟨g', cap, cur, hv, hb, (ht.block g' (Array.getElem?_eq_some_iff.1 hh).1 ?_).trans hh, rest⟩
    have : g' ≠ g := fun e => by
      subst e
      rw [hh] at hg
      simp only [Option.some.injEq, Obj.cells.injEq] at hg
      exact hne hg.2.1.symm
    omega
theorem OwnC.typed {B g tg : Nat} {w w2 : World} {a1 : Option Addr} {n1 c1 : Nat} {a2 : Option Addr} {n2 c2 : Nat} {a3 : Option Addr} {n3 c3 : Nat} {v1 : List Value} {sl : Nat → Sl} {pv : Nat → List Value} {vs : List Value} {bs : List Int} {cs : Array Value} {fr : Nat × Nat} (h : OwnC B w a1 n1 c1 a2 n2 c2 a3 n3 c3 v1 sl pv vs bs) (hg : w.heap[g]? = some (.cells cs tg fr)) (h1 : tg ≠ 107) (h2 : tg ≠ 63) (h3 : tg ≠ 5) (ht : Touch g (g + 1) w w2) : OwnC B w2 a1 n1 c1 a2 n2 c2 a3 n3 c3 v1 sl pv vs bs :=
  ⟨fun hp => owns_typed (h.nm hp) hg h1 ht, ⟨owns_typed h.en.row hg h2 ht, h.en.at0, fun j hj hp => owns_typed (h.en.each j hj hp) hg h1 ht, h.en.apart⟩, ⟨owns_typed h.sg.row hg h3 ht, h.sg.byte⟩, h.ap⟩
/-- A list that is told: where its name and its entries lie, and that they are ours. -/
structure AnW (B : Nat) (w : World) (p1 : Option Addr) (m f1 : Nat) (p2 : Option Addr) (n f2 : Nat) (z : CP) (sl : Nat → Sl) : Prop where
  nm : 0 < m → w.ownsRow B 107 2 (.slice p1 m f1) m (flPt z.parts)
  en : OwnQ B w p2 n f2 sl (fun j => flPt (z.ents.getD j default).parts) (flG z.ents sl n)
  l1 : z.parts.length = m
  l2 : z.ents.length = n
  l3 : z.sig = []
  hl : ∀ j, j < n → (sl j).2.1 = (z.ents.getD j default).parts.length
theorem AnW.low {B : Nat} {S : Nat → Prop} {w w' : World} {p1 : Option Addr} {m f1 : Nat} {p2 : Option Addr} {n f2 : Nat} {z : CP} {sl : Nat → Sl} (h : AnW B w p1 m f1 p2 n f2 z sl) (k : TouchS S w w') (hS : ∀ i, S i → i < B) : AnW B w' p1 m f1 p2 n f2 z sl :=
  ⟨fun hp => ownsRow_keepS (h.nm hp) k (fun g _ hg q => by have := hS g q; omega), h.en.keepS k (fun g _ hg q => by have := hS g q; omega) (fun j hj hp g _ hg q => by have := hS g q; omega), h.l1, h.l2, h.l3, h.hl⟩
theorem AnW.kept {B : Nat} {w w' : World} {p1 : Option Addr} {m f1 : Nat} {p2 : Option Addr} {n f2 : Nat} {z : CP} {sl : Nat → Sl} (h : AnW B w p1 m f1 p2 n f2 z sl) (hb : Below w.heap.size w w') : AnW B w' p1 m f1 p2 n f2 z sl :=
  h.low (S := fun _ => False) (TouchS.of_below hb) (fun _ q => q.elim)
theorem AnW.typed {B g tg : Nat} {w w2 : World} {p1 : Option Addr} {m f1 : Nat} {p2 : Option Addr} {n f2 : Nat} {z : CP} {sl : Nat → Sl} {cs : Array Value} {fr : Nat × Nat} (h : AnW B w p1 m f1 p2 n f2 z sl) (hg : w.heap[g]? = some (.cells cs tg fr)) (h1 : tg ≠ 107) (h2 : tg ≠ 63) (ht : Touch g (g + 1) w w2) : AnW B w2 p1 m f1 p2 n f2 z sl :=
  ⟨fun hp => owns_typed (h.nm hp) hg h1 ht, ⟨owns_typed h.en.row hg h2 ht, h.en.at0, fun j hj hp => owns_typed (h.en.each j hj hp) hg h1 ht, h.en.apart⟩, h.l1, h.l2, h.l3, h.hl⟩
/-- It says what the list says. -/
theorem AnW.crs {B : Nat} {w : World} {p1 : Option Addr} {m f1 : Nat} {p2 : Option Addr} {n f2 : Nat} {p3 : Option Addr} {z : CP} {sl : Nat → Sl} (h : AnW B w p1 m f1 p2 n f2 z sl) (hz : CpOk m n 0 z) : Crs w p1 m p2 n p3 0 z := by
  obtain ⟨z1, z2, z3, z4, z5⟩ := hz
  refine ⟨?_, ⟨h.l2, by omega, fun k hk => ?_⟩, ⟨by rw [h.l3]; rfl, fun k hk => absurd hk (Nat.not_lt_zero _), fun k => by rw [h.l3]; simp⟩, by omega⟩
  · rcases Nat.eq_zero_or_pos m with q | q
    · exact ⟨h.l1, by omega, fun k hk => by omega⟩
    · exact pts_of_row (h.nm q) h.l1 (by omega) (fun k hk => Nat.le_trans (z2 k hk) (by omega))
  · obtain ⟨g, rfl, _, hg⟩ := ownsRow_shape h.en.row (by omega)
    obtain ⟨f0, f1, f2, f3⟩ := flG_get z.ents sl n k hk
    have hzk := z4 k hk
    have e := h.hl k hk
    refine ⟨g, 0, (sl k).1, (sl k).2.1, (sl k).2.2, rfl, hg, ⟨?_, ?_, ?_, ?_⟩, ?_⟩
    · rw [Nat.zero_add]; exact (h.en.row.cellAt (k * 4) (by omega)).trans f0
    · rw [Nat.zero_add]; exact (h.en.row.cellAt (k * 4 + 1) (by omega)).trans f1
    · rw [Nat.zero_add]; exact (h.en.row.cellAt (k * 4 + 2) (by omega)).trans f2
    · rw [Nat.zero_add]; exact (h.en.row.cellAt (k * 4 + 3) (by omega)).trans f3
    · rcases Nat.eq_zero_or_pos (sl k).2.1 with q | q
      · exact ⟨by omega, by omega, fun i hi => by omega⟩
      · exact pts_of_row (h.en.each k hk q) e.symm (by have := hzk.1; omega) (fun i hi => Nat.le_trans (hzk.2 i (by omega)) (by omega))
theorem anW_zero {B : Nat} {w : World} : AnW B w none 0 0 none 0 0 zeroC (fun _ => (none, 0, 0)) :=
  ⟨fun h => absurd h (Nat.lt_irrefl _), ⟨⟨rfl, .inl ⟨rfl, rfl⟩⟩, fun _ h => absurd h (Nat.not_lt_zero _), fun _ h => absurd h (Nat.not_lt_zero _), fun _ _ h => absurd h (Nat.not_lt_zero _)⟩, rfl, rfl, rfl, fun _ h => absurd h (Nat.not_lt_zero _)⟩
/-- The specification's answer, and the program's. -/
structure AnS (B : Nat) (w : World) (p1 : Option Addr) (m f1 : Nat) (p2 : Option Addr) (n f2 : Nat) (z : CP) : Prop where
  ex : ∃ sl, AnW B w p1 m f1 p2 n f2 z sl
theorem AnS.kept {B : Nat} {w w' : World} {p1 : Option Addr} {m f1 : Nat} {p2 : Option Addr} {n f2 : Nat} {z : CP} (h : AnS B w p1 m f1 p2 n f2 z) (hb : Below w.heap.size w w') : AnS B w' p1 m f1 p2 n f2 z := ⟨h.ex.imp fun _ q => q.kept hb⟩
theorem AnS.touched {B g tg : Nat} {w w2 : World} {p1 : Option Addr} {m f1 : Nat} {p2 : Option Addr} {n f2 : Nat} {z : CP} {cs : Array Value} {fr : Nat × Nat} (h : AnS B w p1 m f1 p2 n f2 z) (hg : w.heap[g]? = some (.cells cs tg fr)) (h1 : tg ≠ 107) (h2 : tg ≠ 63) (ht : Touch g (g + 1) w w2) : AnS B w2 p1 m f1 p2 n f2 z := ⟨h.ex.imp fun _ q => q.typed hg h1 h2 ht⟩
structure AnI (B : Nat) (w : World) (p1 : Option Addr) (m f1 : Nat) (p2 : Option Addr) (n f2 : Nat) (p3 : Option Addr) (f3 : Nat) (z : CP) : Prop where
  ex : ∃ sl, AnW B w p1 m f1 p2 n f2 z sl ∧ ∃ v1 pv vs, OwnC B w p1 m f1 p2 n f2 p3 0 f3 v1 sl pv vs []

def AnsS (z : CP) (m n : Nat) (cd : Int) (w : World) (e : Ending) (w' : World) : Prop :=
  ∃ p1 f1 p2 f2 p3 f3, e = .returned (.tuple #[crv p1 m f1 p2 n f2 p3 0 f3 z, .int .i64 cd]) ∧ AnS w.heap.size w' p1 m f1 p2 n f2 z ∧ Below w.heap.size w w'
def AnsI (z : CP) (m n : Nat) (cd : Int) (w : World) (e : Ending) (w' : World) : Prop :=
  ∃ p1 f1 p2 f2 p3 f3, e = .returned (.tuple #[crv p1 m f1 p2 n f2 p3 0 f3 z, .int .i64 cd]) ∧ AnI w.heap.size w' p1 m f1 p2 n f2 p3 f3 z ∧ Below w.heap.size w w'
theorem AnsI.s {z : CP} {m n : Nat} {cd : Int} {w : World} {e : Ending} {w' : World} (h : AnsI z m n cd w e w') : AnsS z m n cd w e w' := by
  obtain ⟨p1, f1, p2, f2, p3, f3, h1, ⟨sl, h2, _⟩, h3⟩ := h
  exact ⟨p1, f1, p2, f2, p3, f3, h1, ⟨sl, h2⟩, h3⟩
theorem ownC_zero {B : Nat} {w : World} : OwnC B w none 0 0 none 0 0 none 0 0 [] (fun _ => (none, 0, 0)) (fun _ => []) [] [] :=
  ⟨fun h => absurd h (Nat.lt_irrefl _), ⟨⟨rfl, .inl ⟨rfl, rfl⟩⟩, fun _ h => absurd h (Nat.not_lt_zero _), fun _ h => absurd h (Nat.not_lt_zero _), fun _ _ h => absurd h (Nat.not_lt_zero _)⟩, ⟨⟨rfl, .inl ⟨rfl, rfl⟩⟩, fun i => by simp⟩, fun _ h => absurd h (Nat.not_lt_zero _)⟩
theorem ansI_zero {w w' : World} {cd : Int} (hb : Below w.heap.size w w') : AnsI zeroC 0 0 cd w (.returned (.tuple #[crv none 0 0 none 0 0 none 0 0 zeroC, .int .i64 cd])) w' :=
  ⟨none, 0, none, 0, none, 0, rfl, ⟨_, anW_zero, _, _, _, ownC_zero⟩, hb⟩
theorem ansS_zero {w w' : World} {cd : Int} (hb : Below w.heap.size w w') : AnsS zeroC 0 0 cd w (.returned (.tuple #[crv none 0 0 none 0 0 none 0 0 zeroC, .int .i64 cd])) w' := (ansI_zero hb).s

end Go.Proofs.YtbfjkmlmnhphoaaDoor
