import Derived.Test.YtbfjkmlmnhphoaaDoorGK6MD2
import Derived.Lib.QuietBelow
import Derived.BigQuiet
set_option linter.unusedVariables false
namespace Go.Proofs.YtbfjkmlmnhphoaaDoor
open Go.RowKit Go.Sort

set_option maxRecDepth 10000 in
set_option maxHeartbeats 2000000 in
theorem heldPartS_any (B : Nat) (a : Option Addr) (n cap k : Nat) (w : World) (h : w.ownsRow B 107 2 (.slice a n cap) n (mkPs k n)) (hn : n ≤ 1048576) (h0 : 0 < k) (hk : k ≤ 2000000000000000) :
    Calls Tryd.prog 79 #[.slice a n cap, .int .i64 k] w fun e w' => e = .returned (.int .i64 (k + 2 * n : Nat)) ∧ Below w.heap.size w w' := by
  have H0 : Hid (w.ownsRow B 107 2 (.slice a n cap) n (mkPs k n)) := h
  clear h
  go_enter Tryd.func79, Tryd.ntmps79
  go_wp2
  go_loopw [1, 5] (fun q i wr => ∃ j : Nat, j ≤ n ∧ i = .int .i64 j ∧ q = .int .i64 (k + 2 * j : Nat) ∧ Below w.heap.size w wr) (fun _ i _ => n - (intOf i).toNat)
  case atStart => exact ⟨0, Nat.zero_le _, rfl, rfl, Below.refl _ _⟩
  case round =>
    obtain ⟨j, hj, rfl, rfl, hbr⟩ := hrel
    by_cases hlt : j < n
    · obtain ⟨g, rfl, hgB, hgl⟩ := ownsRow_shape H0.out (by omega)
      obtain ⟨m0, m1⟩ := mkPs_get k n j hlt
      have c0 : wr.cell? ⟨g, j * 2, none⟩ = some (.int .i64 ((k + 2 * j : Nat) : Int)) := (hbr.cell (p := ⟨g, j * 2, none⟩) hgl).trans ((H0.out.cellAt (j * 2) (by omega)).trans m0)
      have c1 : wr.cell? ⟨g, j * 2 + 1, none⟩ = some (.string (mtx (k + 2 * j + 1))) := (hbr.cell (p := ⟨g, j * 2 + 1, none⟩) hgl).trans ((H0.out.cellAt (j * 2 + 1) (by omega)).trans m1)
      clear m0 m1
      obtain ⟨q, hq⟩ : ∃ q, q = k + 2 * j := ⟨_, rfl⟩
      rw [← hq] at c0 c1
      rw [← hq]
      have HQ : Hid (q = k + 2 * j) := hq
      have hq1 : q ≤ 3000000000000000 := by omega
      have hq0 : 0 < q := by omega
      clear hq
      have q1 := cell_regrown c1
      have hjn : (j : Int) < (n : Int) := by omega
      have ca : Hid (∀ d os, Calls Tryd.prog 98 #[.int .i64 ((q : Int) + 1)] (grow (redrawn wr d) os) fun e w'' => e = .returned (.string (mtx (q + 1))) ∧ ∃ p : Regrown, w'' = grow (redrawn wr p.d) p.os) := fun d os => Calls.regrown_of (by have h := markText_any (q + 1) (grow (redrawn wr d) os) (by omega) (by omega); rw [show ((q + 1 : Nat) : Int) = (q : Int) + 1 from by omega] at h; exact h)
      obtain ⟨t, ht⟩ : ∃ t, t = mtx (q + 1) := ⟨_, rfl⟩
      rw [← ht] at ca q1
      clear ht c1
      go_wp2_with fail
      refine wp_region_quiet_below (by kernel_rfl) (by kernel_rfl) ?_
      iterate 6 (go_big_quiet_step (fail))
      go_big_quiet_step (exact ca.out _ _)
      go_big_quiet_step (fail)
      refine wpQuiet_nil ?_
      intro _ hw'
      obtain ⟨⟨dq, osq⟩, hw''⟩ := hw'
      subst hw''
      have B3 : Hid (Below w.heap.size w (grow (redrawn wr dq) osq)) := hbr.trans ((below_regrown wr dq osq).mono hbr.size)
      go_wp2
      go_roundw
      case rel => exact ⟨j + 1, by omega, by go_num, by rw [show ((k + 2 * (j + 1) : Nat) : Int) = (q : Int) + 1 + 1 from by have := HQ.out; omega], B3.out⟩
      case measure => simp [intOf]; omega
    · have hjn : j = n := by omega
      subst hjn
      go_wp2
      go_ret
      exact ⟨rfl, hbr⟩

end Go.Proofs.YtbfjkmlmnhphoaaDoor

set_option linter.unusedVariables false
namespace Go.Proofs.YtbfjkmlmnhphoaaDoor
open Go.RowKit Go.Sort

/-- Of what was there only the block of this slice may have turned. -/
structure TouchA (a : Option Addr) (n : Nat) (w w' : World) : Prop where
  os : w'.os = w.os
  tape : w'.tape = w.tape
  output : w'.output = w.output
  size : w.heap.size ≤ w'.heap.size
  block : ∀ i, i < w.heap.size → (0 < n → a ≠ some ⟨i, 0, none⟩) → w'.heap[i]? = w.heap[i]?
theorem TouchA.refl (a : Option Addr) (n : Nat) (w : World) : TouchA a n w w := ⟨rfl, rfl, rfl, Nat.le_refl _, fun _ _ _ => rfl⟩
theorem TouchA.touch {lo hi : Nat} {a : Option Addr} {n : Nat} {w w' : World} (h : TouchA a n w w') (hin : ∀ g, a = some ⟨g, 0, none⟩ → 0 < n → lo ≤ g ∧ g < hi) : Touch lo hi w w' :=
  ⟨h.os, h.tape, h.output, h.size, fun i hi ho => h.block i hi (fun hn e => by have := hin i e hn; omega)⟩
/-- Of what was there only blocks of S may have turned. -/
structure TouchS (S : Nat → Prop) (w w' : World) : Prop where
  os : w'.os = w.os
  tape : w'.tape = w.tape
  output : w'.output = w.output
  size : w.heap.size ≤ w'.heap.size
  block : ∀ i, i < w.heap.size → ¬ S i → w'.heap[i]? = w.heap[i]?
theorem TouchS.of_below {S : Nat → Prop} {w w' : World} (h : Below w.heap.size w w') : TouchS S w w' := ⟨h.os, h.tape, h.output, h.size, fun k hk _ => h.block k hk⟩
theorem TouchS.trans {S : Nat → Prop} {a b c : World} (h : TouchS S a b) (k : TouchS S b c) : TouchS S a c :=
  ⟨k.os.trans h.os, k.tape.trans h.tape, k.output.trans h.output, Nat.le_trans h.size k.size, fun i hi ho => (k.block i (Nat.lt_of_lt_of_le hi h.size) ho).trans (h.block i hi ho)⟩
theorem TouchS.mono {S T : Nat → Prop} {w w' : World} (h : TouchS S w w') (hs : ∀ i, S i → T i) : TouchS T w w' := ⟨h.os, h.tape, h.output, h.size, fun i hi ho => h.block i hi (fun q => ho (hs i q))⟩
theorem TouchS.set {S : Nat → Prop} (w : World) (g j : Nat) (u : Value) (hg : S g) : TouchS S w (w.setCell ⟨g, j, none⟩ u) := by
  have ht := touch_set' (p := g) (q := g + 1) w g j u (Nat.le_refl _) (Nat.lt_succ_self _)
  exact ⟨ht.os, ht.tape, ht.output, ht.size, fun i hi ho => ht.block i hi (by
    have : g ≠ i := fun e => ho (e ▸ hg)
    omega)⟩
theorem TouchA.touchS {S : Nat → Prop} {a : Option Addr} {n : Nat} {w w' : World} (h : TouchA a n w w') (hin : ∀ g, a = some ⟨g, 0, none⟩ → 0 < n → S g) : TouchS S w w' :=
  ⟨h.os, h.tape, h.output, h.size, fun i hi ho => h.block i hi (fun hn e => ho (hin i e hn))⟩
theorem TouchA.of_below {a : Option Addr} {n : Nat} {w w' : World} (h : Below w.heap.size w w') : TouchA a n w w' := ⟨h.os, h.tape, h.output, h.size, fun k hk _ => h.block k hk⟩
theorem TouchA.trans {x : Option Addr} {n : Nat} {a b c : World} (h : TouchA x n a b) (k : TouchA x n b c) : TouchA x n a c :=
  ⟨k.os.trans h.os, k.tape.trans h.tape, k.output.trans h.output, Nat.le_trans h.size k.size, fun i hi ho => (k.block i (Nat.lt_of_lt_of_le hi h.size) ho).trans (h.block i hi ho)⟩
theorem ownsRow_keepS {w w' : World} {S : Nat → Prop} {B t s m c : Nat} {b : Option Addr} {vs : List Value} (h : w.ownsRow B t s (.slice b m c) m vs) (k : TouchS S w w') (hne : ∀ g, b = some ⟨g, 0, none⟩ → B ≤ g → ¬ S g) : w'.ownsRow B t s (.slice b m c) m vs := by
  refine ⟨h.1, ?_⟩
  rcases h.2 with q | ⟨g, c', cur, h1, hb, hg, r⟩
  · exact .inl q
  · refine .inr ⟨g, c', cur, h1, hb, ?_, r⟩
    simp only [Value.slice.injEq] at h1
    rw [k.block g (Array.getElem?_eq_some_iff.1 hg).1 (hne g h1.1 hb)]
    exact hg
theorem ownsRow_keepA {w w' : World} {B t s n m c : Nat} {a b : Option Addr} {vs : List Value} (h : w.ownsRow B t s (.slice b m c) m vs) (k : TouchA a n w w') (hne : 0 < n → a ≠ b) : w'.ownsRow B t s (.slice b m c) m vs := by
  refine ⟨h.1, ?_⟩
  rcases h.2 with q | ⟨g, c', cur, h1, hb, hg, r⟩
  · exact .inl q
  · refine .inr ⟨g, c', cur, h1, hb, ?_, r⟩
    simp only [Value.slice.injEq] at h1
    rw [k.block g (Array.getElem?_eq_some_iff.1 hg).1 (fun hn e => hne hn (e.trans h1.1.symm))]
    exact hg
theorem ownsRow_ne {w : World} {B B' t t' s s' n n' c c' : Nat} {a a' : Option Addr} {vs vs' : List Value} (h : w.ownsRow B t s (.slice a n c) n vs) (h' : w.ownsRow B' t' s' (.slice a' n' c') n' vs') (ht : t ≠ t') (hn : 0 < n) : a ≠ a' := by
  rintro rfl
  rcases h.2 with ⟨_, q⟩ | ⟨g, c1, cur, h1, hb, hg, r⟩
  · omega
  · rcases h'.2 with ⟨q, _⟩ | ⟨g', c1', cur', h1', hb', hg', r'⟩
    · simp only [Value.slice.injEq] at h1 q
      rw [h1.1] at q
      simp at q
    · simp only [Value.slice.injEq] at h1 h1'
      have e := h1.1.symm.trans h1'.1
      simp only [Option.some.injEq, Addr.mk.injEq] at e
      rw [← e.1, hg] at hg'
      simp only [Option.some.injEq, Obj.cells.injEq] at hg'
      exact ht hg'.2.1

theorem markPartS_q (B : Nat) (a : Option Addr) (n cap k : Nat) (vs : List Value) (w : World) (h : 0 < n → w.ownsRow B 107 2 (.slice a n cap) n vs) (hn : n ≤ 1048576) (h0 : 0 < k) (hk : k ≤ 2000000000000000) :
    Calls Tryd.prog 78 #[.slice a n cap, .int .i64 k] w fun e w' => e = .returned (.int .i64 (k + 2 * n : Nat)) ∧ (0 < n → w'.ownsRow B 107 2 (.slice a n cap) n (mkPs k n)) ∧ TouchA a n w w' := by
  by_cases hz : n = 0
  · subst hz
    go_enter Tryd.func78, Tryd.ntmps78
    go_wp2
    go_loopw [1, 5] (fun q i wr => i = .int .i64 0 ∧ q = .int .i64 k ∧ wr = w) (fun _ _ _ => 0)
    case atStart => exact ⟨rfl, rfl, rfl⟩
    case round =>
      obtain ⟨rfl, rfl, rfl⟩ := hrel
      go_wp2
      go_ret
      exact ⟨rfl, fun h => absurd h (Nat.lt_irrefl _), TouchA.refl _ _ _⟩
  · have hp : 0 < n := by omega
    obtain ⟨g, rfl, hgB, hgl⟩ := ownsRow_shape (h hp) hp
    refine (markPartS_any B g (g + 1) _ n cap k vs w (h hp) hn h0 hk (fun g' e _ => by simp only [Option.some.injEq, Addr.mk.injEq] at e; omega)).mono ?_
    rintro e w' ⟨rfl, ho, ht⟩
    exact ⟨rfl, fun _ => ho, ⟨ht.os, ht.tape, ht.output, ht.size, fun i hi hne => ht.block i hi (by
      have h1 : g ≠ i := fun e => hne hp (by rw [e])
      omega)⟩⟩

theorem heldPartS_q (B : Nat) (a : Option Addr) (n cap k : Nat) (w : World) (h : 0 < n → w.ownsRow B 107 2 (.slice a n cap) n (mkPs k n)) (hn : n ≤ 1048576) (h0 : 0 < k) (hk : k ≤ 2000000000000000) :
    Calls Tryd.prog 79 #[.slice a n cap, .int .i64 k] w fun e w' => e = .returned (.int .i64 (k + 2 * n : Nat)) ∧ Below w.heap.size w w' := by
  by_cases hz : n = 0
  · subst hz
    go_enter Tryd.func79, Tryd.ntmps79
    go_wp2
    go_loopw [1, 5] (fun q i wr => i = .int .i64 0 ∧ q = .int .i64 k ∧ wr = w) (fun _ _ _ => 0)
    case atStart => exact ⟨rfl, rfl, rfl⟩
    case round =>
      obtain ⟨rfl, rfl, rfl⟩ := hrel
      go_wp2
      go_ret
      exact ⟨rfl, Below.refl _ _⟩
  · exact heldPartS_any B a n cap k w (h (by omega)) hn h0 hk

end Go.Proofs.YtbfjkmlmnhphoaaDoor

set_option linter.unusedVariables false
namespace Go.Proofs.YtbfjkmlmnhphoaaDoor
open Go.RowKit Go.Sort

abbrev Sl := Option Addr × Nat × Nat
/-- A row of entries of our own, each with its own parts. -/
structure OwnQ (B : Nat) (w : World) (a : Option Addr) (n cap : Nat) (sl : Nat → Sl) (pv : Nat → List Value) (vs : List Value) : Prop where
  row : w.ownsRow B 63 4 (.slice a n cap) n vs
  at0 : ∀ j, j < n → vs[j * 4]? = some (.slice (sl j).1 (sl j).2.1 (sl j).2.2)
  each : ∀ j, j < n → 0 < (sl j).2.1 → w.ownsRow B 107 2 (.slice (sl j).1 (sl j).2.1 (sl j).2.2) (sl j).2.1 (pv j)
  apart : ∀ i j, i < n → j < n → i ≠ j → 0 < (sl i).2.1 → 0 < (sl j).2.1 → (sl i).1 ≠ (sl j).1
theorem OwnQ.below {B : Nat} {w w' : World} {a : Option Addr} {n cap : Nat} {sl : Nat → Sl} {pv : Nat → List Value} {vs : List Value} (h : OwnQ B w a n cap sl pv vs) (hb : Below w.heap.size w w') : OwnQ B w' a n cap sl pv vs :=
  ⟨ownsRow_below h.row hb, h.at0, fun j hj hp => ownsRow_below (h.each j hj hp) hb, h.apart⟩

/-- The count ahead of entry j. -/
def nxQ (sl : Nat → Sl) (k : Nat) : Nat → Nat
  | 0 => k
  | j + 1 => nxQ sl k j + 2 * (sl j).2.1 + 3
theorem nxQ_le (sl : Nat → Sl) (k : Nat) {i j : Nat} (h : i ≤ j) : nxQ sl k i ≤ nxQ sl k j := by
  induction j with
  | zero => obtain rfl : i = 0 := by omega
            exact Nat.le_refl _
  | succ j ih =>
    by_cases e : i = j + 1
    · subst e; exact Nat.le_refl _
    · have := ih (by omega)
      simp only [nxQ]
      omega
/-- The row once its first j entries are marked. -/
def mkV (sl : Nat → Sl) (k : Nat) (vs : List Value) : Nat → List Value
  | 0 => vs
  | j + 1 => (((mkV sl k vs j).set (j * 4 + 1) (.int .i64 ((nxQ sl k j + 2 * (sl j).2.1 : Nat) : Int))).set (j * 4 + 2) (.int .i64 (((nxQ sl k j + 2 * (sl j).2.1 : Nat) : Int) + 1))).set (j * 4 + 3) (.int .i64 (((nxQ sl k j + 2 * (sl j).2.1 : Nat) : Int) + 1 + 1))
theorem mkV_len (sl : Nat → Sl) (k : Nat) (vs : List Value) (j : Nat) : (mkV sl k vs j).length = vs.length := by
  induction j with
  | zero => rfl
  | succ j ih => simp [mkV, ih]
theorem mkV_at0 (sl : Nat → Sl) (k : Nat) (vs : List Value) (j i : Nat) : (mkV sl k vs j)[i * 4]? = vs[i * 4]? := by
  induction j with
  | zero => rfl
  | succ j ih =>
    simp only [mkV]
    rw [List.getElem?_set_ne (by omega), List.getElem?_set_ne (by omega), List.getElem?_set_ne (by omega)]
    exact ih
theorem mkV_get (sl : Nat → Sl) (k : Nat) (vs : List Value) : ∀ (j i : Nat), i < j → j * 4 ≤ vs.length →
    (mkV sl k vs j)[i * 4 + 1]? = some (.int .i64 ((nxQ sl k i + 2 * (sl i).2.1 : Nat) : Int)) ∧ (mkV sl k vs j)[i * 4 + 2]? = some (.int .i64 (((nxQ sl k i + 2 * (sl i).2.1 : Nat) : Int) + 1)) ∧ (mkV sl k vs j)[i * 4 + 3]? = some (.int .i64 (((nxQ sl k i + 2 * (sl i).2.1 : Nat) : Int) + 1 + 1)) := by
  intro j
  induction j with
  | zero => intro i hi; omega
  | succ j ih =>
    intro i hi hl
    have hm := mkV_len sl k vs j
    simp only [mkV]
    by_cases e : i = j
    · subst e
      refine ⟨?_, ?_, ?_⟩
      · rw [List.getElem?_set_ne (by omega), List.getElem?_set_ne (by omega), List.getElem?_set_self (by omega)]
      · rw [List.getElem?_set_ne (by omega), List.getElem?_set_self (by rw [List.length_set]; omega)]
      · rw [List.getElem?_set_self (by rw [List.length_set, List.length_set]; omega)]
    · obtain ⟨h1, h2, h3⟩ := ih i (by omega) (by omega)
      refine ⟨?_, ?_, ?_⟩
      · rw [List.getElem?_set_ne (by omega), List.getElem?_set_ne (by omega), List.getElem?_set_ne (by omega)]; exact h1
      · rw [List.getElem?_set_ne (by omega), List.getElem?_set_ne (by omega), List.getElem?_set_ne (by omega)]; exact h2
      · rw [List.getElem?_set_ne (by omega), List.getElem?_set_ne (by omega), List.getElem?_set_ne (by omega)]; exact h3
/-- The parts once the first j entries are marked. -/
def mkP (sl : Nat → Sl) (k : Nat) (pv : Nat → List Value) (j : Nat) : Nat → List Value := fun i => if i < j then mkPs (nxQ sl k i) (sl i).2.1 else pv i
theorem mkP_zero (sl : Nat → Sl) (k : Nat) (pv : Nat → List Value) : mkP sl k pv 0 = pv := by funext i; simp [mkP]

/-- One entry's parts marked. -/
theorem OwnQ.parted {B : Nat} {w w' : World} {a : Option Addr} {n cap : Nat} {sl : Nat → Sl} {pv : Nat → List Value} {vs : List Value} {k j : Nat} (h : OwnQ B w a n cap sl (mkP sl k pv j) vs) (hj : j < n)
    (ho : 0 < (sl j).2.1 → w'.ownsRow B 107 2 (.slice (sl j).1 (sl j).2.1 (sl j).2.2) (sl j).2.1 (mkPs (nxQ sl k j) (sl j).2.1)) (ht : TouchA (sl j).1 (sl j).2.1 w w') : OwnQ B w' a n cap sl (mkP sl k pv (j + 1)) vs := by
  refine ⟨ownsRow_keepA h.row ht (fun hp => ownsRow_ne (h.each j hj hp) h.row (by decide) hp), h.at0, fun i hi hp => ?_, h.apart⟩
  by_cases e : i = j
  · subst e
    simp only [mkP, if_pos (Nat.lt_succ_self _)]
    exact ho hp
  · have h1 := ownsRow_keepA (h.each i hi hp) ht (fun hp' => h.apart j i hj hi (fun q => e q.symm) hp' hp)
    have e2 : mkP sl k pv (j + 1) i = mkP sl k pv j i := by
      unfold mkP
      by_cases hl : i < j
      · rw [if_pos hl, if_pos (by omega)]
      · rw [if_neg hl, if_neg (by omega)]
    rw [e2]
    exact h1
/-- A number of an entry written. -/
theorem OwnQ.numbered {B : Nat} {w : World} {g n cap : Nat} {sl : Nat → Sl} {pv : Nat → List Value} {vs : List Value} (h : OwnQ B w (some ⟨g, 0, none⟩) n cap sl pv vs) (i : Nat) (v : Value) (hi : ∀ j, i ≠ j * 4) : OwnQ B (w.setCell ⟨g, i, none⟩ v) (some ⟨g, 0, none⟩) n cap sl pv (vs.set i v) := by
  refine ⟨(h.row.stored i v).1, fun j hj => by rw [List.getElem?_set_ne (hi j)]; exact h.at0 j hj, fun j hj hp => ?_, h.apart⟩
  have ht := touch_set' (p := g) (q := g + 1) w g i v (Nat.le_refl _) (Nat.lt_succ_self _)
  refine ownsRow_keepA (a := some ⟨g, 0, none⟩) (n := 1) (h.each j hj hp) ⟨ht.os, ht.tape, ht.output, ht.size, fun q hq hne => ht.block q hq (by
    have : g ≠ q := fun e => hne (by decide) (by rw [e])
    omega)⟩ (fun _ e => ownsRow_ne (h.each j hj hp) h.row (by decide) hp e.symm)

set_option maxRecDepth 10000 in
set_option maxHeartbeats 4000000 in
theorem markGoneS_any (B : Nat) (S : Nat → Prop) (a : Option Addr) (n cap k : Nat) (sl : Nat → Sl) (pv : Nat → List Value) (vs : List Value) (w : World) (h : OwnQ B w a n cap sl pv vs) (hn : n ≤ 1048576) (hs : ∀ j, j < n → (sl j).2.1 ≤ 1048576) (h0 : 0 < k) (hk : nxQ sl k n ≤ 2000000000000000)
    (hin : ∀ g, a = some ⟨g, 0, none⟩ → 0 < n → S g) (hin2 : ∀ j, j < n → ∀ g, (sl j).1 = some ⟨g, 0, none⟩ → 0 < (sl j).2.1 → S g) :
    Calls Tryd.prog 51 #[.slice a n cap, .int .i64 k] w fun e w' => e = .returned (.int .i64 (nxQ sl k n : Nat)) ∧ OwnQ B w' a n cap sl (mkP sl k pv n) (mkV sl k vs n) ∧ TouchS S w w' := by
  have HIN : Hid (∀ g, a = some ⟨g, 0, none⟩ → 0 < n → S g) := hin
  have HIN2 : Hid (∀ j, j < n → ∀ g, (sl j).1 = some ⟨g, 0, none⟩ → 0 < (sl j).2.1 → S g) := hin2
  have HS : Hid (∀ j, j < n → (sl j).2.1 ≤ 1048576) := hs
  have H0 : Hid (OwnQ B w a n cap sl pv vs) := h
  have HK : Hid (nxQ sl k n ≤ 2000000000000000) := hk
  have HK0 : Hid (0 < k) := h0
  clear h hin hin2 hs hk h0
  go_enter Tryd.func51, Tryd.ntmps51
  go_wp2
  go_loopw [1, 5] (fun q i wr => ∃ j : Nat, j ≤ n ∧ i = .int .i64 j ∧ q = .int .i64 (nxQ sl k j : Nat) ∧ Hid (OwnQ B wr a n cap sl (mkP sl k pv j) (mkV sl k vs j)) ∧ TouchS S w wr) (fun _ i _ => n - (intOf i).toNat)
  case atStart => exact ⟨0, Nat.zero_le _, rfl, rfl, by show OwnQ _ _ _ _ _ _ _ _; rw [mkP_zero]; exact H0.out, TouchS.of_below (Below.refl _ _)⟩
  case round =>
    obtain ⟨j, hj, rfl, rfl, HR, htr⟩ := hrel
    by_cases hlt : j < n
    · obtain ⟨g, rfl, hgB, hgl⟩ := ownsRow_shape HR.out.row (by omega)
      have hgS := HIN.out g rfl (by omega)
      have c0 : wr.cell? ⟨g, j * 4, none⟩ = some (.slice (sl j).1 (sl j).2.1 (sl j).2.2) := (HR.out.row.cellAt (j * 4) (by omega)).trans (HR.out.at0 j hlt)
      have hq1 : nxQ sl k (j + 1) ≤ 2000000000000000 := Nat.le_trans (nxQ_le sl k (by omega)) HK.out
      have hq0 : k ≤ nxQ sl k j := nxQ_le sl k (Nat.zero_le _)
      have hsj := HS.out j hlt
      simp only [nxQ] at hq1
      have HM := markPartS_q B (sl j).1 (sl j).2.1 (sl j).2.2 (nxQ sl k j) (mkP sl k pv j j) wr (fun hp => HR.out.each j hlt hp) hsj (by have := HK0.out; omega) (by omega)
      have HP : Hid (∀ w2, (0 < (sl j).2.1 → w2.ownsRow B 107 2 (.slice (sl j).1 (sl j).2.1 (sl j).2.2) (sl j).2.1 (mkPs (nxQ sl k j) (sl j).2.1)) → TouchA (sl j).1 (sl j).2.1 wr w2 → OwnQ B w2 (some ⟨g, 0, none⟩) n cap sl (mkP sl k pv (j + 1)) (mkV sl k vs j) ∧ TouchS S w w2) := fun w2 ho ht => ⟨HR.out.parted hlt ho ht, htr.trans (ht.touchS (fun g' e hp => HIN2.out j hlt g' e hp))⟩
      have HE : Hid (mkV sl k vs (j + 1) = (((mkV sl k vs j).set (j * 4 + 1) (.int .i64 ((nxQ sl k j + 2 * (sl j).2.1 : Nat) : Int))).set (j * 4 + 2) (.int .i64 (((nxQ sl k j + 2 * (sl j).2.1 : Nat) : Int) + 1))).set (j * 4 + 3) (.int .i64 (((nxQ sl k j + 2 * (sl j).2.1 : Nat) : Int) + 1 + 1))) := rfl
      have HX : Hid (nxQ sl k (j + 1) = nxQ sl k j + 2 * (sl j).2.1 + 3) := rfl
      have hlen : (mkV sl k vs j).length = n * 4 := HR.out.row.1
      obtain ⟨ms, hms⟩ : ∃ ms, ms = mkV sl k vs j := ⟨_, rfl⟩
      rw [← hms] at HE HP hlen
      obtain ⟨p, hp⟩ : ∃ p, p = nxQ sl k j + 2 * (sl j).2.1 := ⟨_, rfl⟩
      rw [← hp] at HE HX HM
      have hp1 : p ≤ 2000000000000000 := by omega
      obtain ⟨q, hq⟩ : ∃ q, q = nxQ sl k j := ⟨_, rfl⟩
      obtain ⟨a1, ha⟩ : ∃ x, x = (sl j).1 := ⟨_, rfl⟩
      obtain ⟨n1, hn1⟩ : ∃ x, x = (sl j).2.1 := ⟨_, rfl⟩
      obtain ⟨d1, hd1⟩ : ∃ x, x = (sl j).2.2 := ⟨_, rfl⟩
      rw [← ha, ← hn1, ← hd1] at c0
      rw [← ha, ← hn1, ← hd1, ← hq] at HM HP
      rw [← hq]
      have HPX : Hid (nxQ sl k (j + 1) = p + 3) := HX
      have hjn : (j : Int) < (n : Int) := by omega
      clear hp ha hn1 hd1 hq hms hq1 hq0 hsj HX HR htr
      go_wp2_with fail
      refine HM.mono ?_
      rintro e w2 ⟨rfl, ho2, ht2⟩
      obtain ⟨h2, hT2⟩ := HP.out w2 ho2 ht2
      clear HM HP ho2 ht2 c0
      have f1 := h2.row.frozenAt (j * 4 + 1)
      have f2 := h2.row.frozenAt (j * 4 + 2)
      have f3 := h2.row.frozenAt (j * 4 + 3)
      obtain ⟨y1, x1⟩ : ∃ y, w2.cell? ⟨g, j * 4 + 1, none⟩ = some y := ⟨_, (h2.row.cellAt _ (by omega)).trans (List.getElem?_eq_getElem (by omega))⟩
      obtain ⟨y2, x2⟩ : ∃ y, w2.cell? ⟨g, j * 4 + 2, none⟩ = some y := ⟨_, (h2.row.cellAt _ (by omega)).trans (List.getElem?_eq_getElem (by omega))⟩
      obtain ⟨y3, x3⟩ : ∃ y, w2.cell? ⟨g, j * 4 + 3, none⟩ = some y := ⟨_, (h2.row.cellAt _ (by omega)).trans (List.getElem?_eq_getElem (by omega))⟩
      have HF : Hid (OwnQ B (((w2.setCell ⟨g, j * 4 + 1, none⟩ (.int .i64 (p : Int))).setCell ⟨g, j * 4 + 2, none⟩ (.int .i64 ((p : Int) + 1))).setCell ⟨g, j * 4 + 3, none⟩ (.int .i64 ((p : Int) + 1 + 1))) (some ⟨g, 0, none⟩) n cap sl (mkP sl k pv (j + 1)) (mkV sl k vs (j + 1))) := by
        show OwnQ _ _ _ _ _ _ _ _
        rw [HE.out]
        exact ((h2.numbered _ _ (fun i => by omega)).numbered _ _ (fun i => by omega)).numbered _ _ (fun i => by omega)
      have HT : Hid (TouchS S w (((w2.setCell ⟨g, j * 4 + 1, none⟩ (.int .i64 (p : Int))).setCell ⟨g, j * 4 + 2, none⟩ (.int .i64 ((p : Int) + 1))).setCell ⟨g, j * 4 + 3, none⟩ (.int .i64 ((p : Int) + 1 + 1)))) := ((hT2.trans (TouchS.set _ _ _ _ hgS)).trans (TouchS.set _ _ _ _ hgS)).trans (TouchS.set _ _ _ _ hgS)
      clear h2 hT2 HE
      go_wp2
      go_roundw
      case rel => exact ⟨j + 1, by omega, by go_num, by rw [HPX.out, show ((p + 3 : Nat) : Int) = (p : Int) + 1 + 1 + 1 from by omega], HF, HT.out⟩
      case measure => simp [intOf]; omega
    · have hjn : j = n := by omega
      subst hjn
      go_wp2
      go_ret
      exact ⟨rfl, HR.out, htr⟩

end Go.Proofs.YtbfjkmlmnhphoaaDoor
