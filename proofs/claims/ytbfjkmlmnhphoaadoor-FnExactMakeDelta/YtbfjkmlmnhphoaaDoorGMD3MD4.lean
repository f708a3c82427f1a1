import Derived.Test.YtbfjkmlmnhphoaaDoorGK6MD2
import Derived.Lib.QuietBelow
import Derived.BigQuiet
set_option linter.unusedVariables false
namespace Go.Proofs.YtbfjkmlmnhphoaaDoor
open Go.RowKit Go.Sort

set_option maxRecDepth 10000 in
set_option maxHeartbeats 2000000 in
theorem heldPartS_any (B : Nat) (a : Option Addr) (n cap k : Nat) (w : World) (h : w.ownsRow B 107 2 (.slice a n cap) n (mkPs k n)) (hn : n ≤ 1048576) (h0 : 0 < k) (hk : k ≤ 2000000000000000) :
    Calls Tryd.prog 79 #[.slice a n cap, .int .i64 k] w fun e w' => e = .returned (.int .i64 (k + 2 * n : Nat)) ∧ Below w.heap.size w w' := by
  have H0 : Hid (w.ownsRow B 107 2 (.slice a n cap) n (mkPs k n)) := h
  clear h
  go_enter Tryd.func79, Tryd.ntmps79
  go_wp2
  go_loopw [1, 5] (fun q i wr => ∃ j : Nat, j ≤ n ∧ i = .int .i64 j ∧ q = .int .i64 (k + 2 * j : Nat) ∧ Below w.heap.size w wr) (fun _ i _ => n - (intOf i).toNat)
  case atStart => exact ⟨0, Nat.zero_le _, rfl, rfl, Below.refl _ _⟩
  case round =>
    obtain ⟨j, hj, rfl, rfl, hbr⟩ := hrel
    by_cases hlt : j < n
    · obtain ⟨g, rfl, hgB, hgl⟩ := ownsRow_shape H0.out (by omega)
      obtain ⟨m0, m1⟩ := mkPs_get k n j hlt
      have c0 : wr.cell? ⟨g, j * 2, none⟩ = some (.int .i64 ((k + 2 * j : Nat) : Int)) := (hbr.cell (p := ⟨g, j * 2, none⟩) hgl).trans ((H0.out.cellAt (j * 2) (by omega)).trans m0)
      have c1 : wr.cell? ⟨g, j * 2 + 1, none⟩ = some (.string (mtx (k + 2 * j + 1))) := (hbr.cell (p := ⟨g, j * 2 + 1, none⟩) hgl).trans ((H0.out.cellAt (j * 2 + 1) (by omega)).trans m1)
      clear m0 m1
      obtain ⟨q, hq⟩ : ∃ q, q = k + 2 * j := ⟨_, rfl⟩
      rw [← hq] at c0 c1
      rw [← hq]
      have HQ : Hid (q = k + 2 * j) := hq
      have hq1 : q ≤ 3000000000000000 := by omega
      have hq0 : 0 < q := by omega
      clear hq
      have q1 := cell_regrown c1
      have hjn : (j : Int) < (n : Int) := by omega
      have ca : Hid (∀ d os, Calls Tryd.prog 98 #[.int .i64 ((q : Int) + 1)] (grow (redrawn wr d) os) fun e w'' => e = .returned (.string (mtx (q + 1))) ∧ ∃ p : Regrown, w'' = grow (redrawn wr p.d) p.os) := fun d os => Calls.regrown_of (by have h := markText_any (q + 1) (grow (redrawn wr d) os) (by omega) (by omega); rw [show ((q + 1 : Nat) : Int) = (q : Int) + 1 from by omega] at h; exact h)
      obtain ⟨t, ht⟩ : ∃ t, t = mtx (q + 1) := ⟨_, rfl⟩
      rw [← ht] at ca q1
      clear ht c1
      go_wp2_with fail
      refine wp_region_quiet_below (by kernel_rfl) (by kernel_rfl) ?_
      iterate 6 (go_big_quiet_step (fail))
      go_big_quiet_step (exact ca.out _ _)
      go_big_quiet_step (fail)
      refine wpQuiet_nil ?_
      intro _ hw'
      obtain ⟨⟨dq, osq⟩, hw''⟩ := hw'
      subst hw''
      have B3 : Hid (Below w.heap.size w (grow (redrawn wr dq) osq)) := hbr.trans ((below_regrown wr dq osq).mono hbr.size)
      go_wp2
      go_roundw
      case rel => exact ⟨j + 1, by omega, by go_num, by rw [show ((k + 2 * (j + 1) : Nat) : Int) = (q : Int) + 1 + 1 from by have := HQ.out; omega], B3.out⟩
      case measure => simp [intOf]; omega
    · have hjn : j = n := by omega
      subst hjn
      go_wp2
      go_ret
      exact ⟨rfl, hbr⟩

end Go.Proofs.YtbfjkmlmnhphoaaDoor

set_option linter.unusedVariables false
namespace Go.Proofs.YtbfjkmlmnhphoaaDoor
open Go.RowKit Go.Sort

/-- Of what was there only the block of this slice may have turned. -/
structure TouchA (a : Option Addr) (n : Nat) (w w' : World) : Prop where
  os : w'.os = w.os
  tape : w'.tape = w.tape
  output : w'.output = w.output
  size : w.heap.size ≤ w'.heap.size
  block : ∀ i, i < w.heap.size → (0 < n → a ≠ some ⟨i, 0, none⟩) → w'.heap[i]? = w.heap[i]?
theorem TouchA.refl (a : Option Addr) (n : Nat) (w : World) : TouchA a n w w := ⟨rfl, rfl, rfl, Nat.le_refl _, fun _ _ _ => rfl⟩
theorem TouchA.touch {lo hi : Nat} {a : Option Addr} {n : Nat} {w w' : World} (h : TouchA a n w w') (hin : ∀ g, a = some ⟨g, 0, none⟩ → 0 < n → lo ≤ g ∧ g < hi) : Touch lo hi w w' :=
  ⟨h.os, h.tape, h.output, h.size, fun i hi ho => h.block i hi (fun hn e => by have := hin i e hn; omega)⟩
/-- Of what was there only blocks of S may have turned. -/
structure TouchS (S : Nat → Prop) (w w' : World) : Prop where
  os : w'.os = w.os
  tape : w'.tape = w.tape
  output : w'.output = w.output
  size : w.heap.size ≤ w'.heap.size
  block : ∀ i, i < w.heap.size → ¬ S i → w'.heap[i]? = w.heap[i]?
theorem TouchS.of_below {S : Nat → Prop} {w w' : World} (h : Below w.heap.size w w') : TouchS S w w' := ⟨h.os, h.tape, h.output, h.size, fun k hk _ => h.block k hk⟩
theorem TouchS.trans {S : Nat → Prop} {a b c : World} (h : TouchS S a b) (k : TouchS S b c) : TouchS S a c :=
  ⟨k.os.trans h.os, k.tape.trans h.tape, k.output.trans h.output, Nat.le_trans h.size k.size, fun i hi ho => (k.block i (Nat.lt_of_lt_of_le hi h.size) ho).trans (h.block i hi ho)⟩
theorem TouchS.mono {S T : Nat → Prop} {w w' : World} (h : TouchS S w w') (hs : ∀ i, S i → T i) : TouchS T w w' := ⟨h.os, h.tape, h.output, h.size, fun i hi ho => h.block i hi (fun q => ho (hs i q))⟩
theorem TouchS.set {S : Nat → Prop} (w : World) (g j : Nat) (u : Value) (hg : S g) : TouchS S w (w.setCell ⟨g, j, none⟩ u) := by
  have ht := touch_set' (p := g) (q := g + 1) w g j u (Nat.le_refl _) (Nat.lt_succ_self _)
  exact ⟨ht.os, ht.tape, ht.output, ht.size, fun i hi ho => ht.block i hi (by
    have : g ≠ i := fun e => ho (e ▸ hg)
    omega)⟩
theorem TouchA.touchS {S : Nat → Prop} {a : Option Addr} {n : Nat} {w w' : World} (h : TouchA a n w w') (hin : ∀ g, a = some ⟨g, 0, none⟩ → 0 < n → S g) : TouchS S w w' :=
  ⟨h.os, h.tape, h.output, h.size, fun i hi ho => h.block i hi (fun hn e => ho (hin i e hn))⟩
theorem TouchA.of_below {a : Option Addr} {n : Nat} {w w' : World} (h : Below w.heap.size w w') : TouchA a n w w' := ⟨h.os, h.tape, h.output, h.size, fun k hk _ => h.block k hk⟩
theorem TouchA.trans {x : Option Addr} {n : Nat} {a b c : World} (h : TouchA x n a b) (k : TouchA x n b c) : TouchA x n a c :=
  ⟨k.os.trans h.os, k.tape.trans h.tape, k.output.trans h.output, Nat.le_trans h.size k.size, fun i hi ho => (k.block i (Nat.lt_of_lt_of_le hi h.size) ho).trans (h.block i hi ho)⟩
theorem ownsRow_keepS {w w' : World} {S : Nat → Prop} {B t s m c : Nat} {b : Option Addr} {vs : List Value} (h : w.ownsRow B t s (.slice b m c) m vs) (k : TouchS S w w') (hne : ∀ g, b = some ⟨g, 0, none⟩ → B ≤ g → ¬ S g) : w'.ownsRow B t s (.slice b m c) m vs := by
  refine ⟨h.1, ?_⟩
  rcases h.2 with q | ⟨g, c', cur, h1, hb, hg, r⟩
  · exact .inl q
  · refine .inr ⟨g, c', cur, h1, hb, ?_, r⟩
    simp only [Value.slice.injEq] at h1
    rw [k.block g (Array.getElem?_eq_some_iff.1 hg).1 (hne g h1.1 hb)]
    exact hg
theorem ownsRow_keepA {w w' : World} {B t s n m c : Nat} {a b : Option Addr} {vs : List Value} (h : w.ownsRow B t s (.slice b m c) m vs) (k : TouchA a n w w') (hne : 0 < n → a ≠ b) : w'.ownsRow B t s (.slice b m c) m vs := by
  refine ⟨h.1, ?_⟩
  rcases h.2 with q | ⟨g, c', cur, h1, hb, hg, r⟩
  · exact .inl q
  · refine .inr ⟨g, c', cur, h1, hb, ?_, r⟩
    simp only [Value.slice.injEq] at h1
    rw [k.block g (Array.getElem?_eq_some_iff.1 hg).1 (fun hn e => hne hn (e.trans h1.1.symm))]
    exact hg
theorem ownsRow_ne {w : World} {B B' t t' s s' n n' c c' : Nat} {a a' : Option Addr} {vs vs' : List Value} (h : w.ownsRow B t s (.slice a n c) n vs) (h' : w.ownsRow B' t' s' (.slice a' n' c') n' vs') (ht : t ≠ t') (hn : 0 < n) : a ≠ a' := by
  rintro rfl
  rcases h.2 with ⟨_, q⟩ | ⟨g, c1, cur, h1, hb, hg, r⟩
  · omega
  · rcases h'.2 with ⟨q, _⟩ | ⟨g', c1', cur', h1', hb', hg', r'⟩
    · simp only [Value.slice.injEq] at h1 q
      rw [h1.1] at q
      simp at q
    · simp only [Value.slice.injEq] at h1 h1'
      have e := h1.1.symm.trans h1'.1
      simp only [Option.some.injEq, Addr.mk.injEq] at e
      rw [← e.1, hg] at hg'
      simp only [Option.some.injEq, Obj.cells.injEq] at hg'
      exact ht hg'.2.1

theorem markPartS_q (B : Nat) (a : Option Addr) (n cap k : Nat) (vs : List Value) (w : World) (h : 0 < n → w.ownsRow B 107 2 (.slice a n cap) n vs) (hn : n ≤ 1048576) (h0 : 0 < k) (hk : k ≤ 2000000000000000) :
    Calls Tryd.prog 78 #[.slice a n cap, .int .i64 k] w fun e w' => e = .returned (.int .i64 (k + 2 * n : Nat)) ∧ (0 < n → w'.ownsRow B 107 2 (.slice a n cap) n (mkPs k n)) ∧ TouchA a n w w' := by
  by_cases hz : n = 0
  · subst hz
    go_enter Tryd.func78, Tryd.ntmps78
    go_wp2
    go_loopw [1, 5] (fun q i wr => i = .int .i64 0 ∧ q = .int .i64 k ∧ wr = w) (fun _ _ _ => 0)
    case atStart => exact ⟨rfl, rfl, rfl⟩
    case round =>
      obtain ⟨rfl, rfl, rfl⟩ := hrel
      go_wp2
      go_ret
      exact ⟨rfl, fun h => absurd h (Nat.lt_irrefl _), TouchA.refl _ _ _⟩
  · have hp : 0 < n := by omega
    obtain ⟨g, rfl, hgB, hgl⟩ := ownsRow_shape (h hp) hp
    refine (markPartS_any B g (g + 1) _ n cap k vs w (h hp) hn h0 hk (fun g' e _ => by simp only [Option.some.injEq, Addr.mk.injEq] at e; omega)).mono ?_
    rintro e w' ⟨rfl, ho, ht⟩
    exact ⟨rfl, fun _ => ho, ⟨ht.os, ht.tape, ht.output, ht.size, fun i hi hne => ht.block i hi (by
      have h1 : g ≠ i := fun e => hne hp (by rw [e])
      omega)⟩⟩

theorem heldPartS_q (B : Nat) (a : Option Addr) (n cap k : Nat) (w : World) (h : 0 < n → w.ownsRow B 107 2 (.slice a n cap) n (mkPs k n)) (hn : n ≤ 1048576) (h0 : 0 < k) (hk : k ≤ 2000000000000000) :
    Calls Tryd.prog 79 #[.slice a n cap, .int .i64 k] w fun e w' => e = .returned (.int .i64 (k + 2 * n : Nat)) ∧ Below w.heap.size w w' := by
  by_cases hz : n = 0
  · subst hz
    go_enter Tryd.func79, Tryd.ntmps79
    go_wp2
    go_loopw [1, 5] (fun q i wr => i = .int .i64 0 ∧ q = .int .i64 k ∧ wr = w) (fun _ _ _ => 0)
    case atStart => exact ⟨rfl, rfl, rfl⟩
    case round =>
      obtain ⟨rfl, rfl, rfl⟩ := hrel
      go_wp2
      go_ret
      exact ⟨rfl, Below.refl _ _⟩
  · exact heldPartS_any B a n cap k w (h (by omega)) hn h0 hk

end Go.Proofs.YtbfjkmlmnhphoaaDoor
