import Derived.Test.YtpnhhhhmonbajaaGreatMGa
import Derived.Test.YtpnhhhhmonbajaaGreatMGc
set_option linter.unusedVariables false
namespace Go.Proofs.YtpnhhhhmonbajaaGreat
open Go.RowKit

/-- What CounterSign answers. -/
structure CsV where
  ct : List Int
  gs : List ItT
  t : Sc4
  cd : Int
def csBad (cd : Int) : CsV := ⟨[], [], (0, 0, 0, 0), cd⟩
/-- Whether it may be signed over. -/
def csG (nn : Nat) (xs : List ItT) (i at2 : Int) : Prop := msgP nn xs ∧ (0 ≤ i ∧ i ≤ (xs.length : Int) - 1) ∧ timP at2 ∧ (xs.getD i.toNat default).over.length ≠ 6
def sgTr (v : NsV) : ItT := .mk v.k v.at2 v.sg []
def csGo (ws : List Int) (xs : List ItT) (k : Nat) (v : NsV) : CsV := if v.cd = 0 then ⟨ws, xs.set k (overT (xs.getD k default) (sgTr v)), v.t, 0⟩ else csBad v.cd
open Classical in
noncomputable def csV (nn : Nat) (ws : List Int) (xs : List ItT) (i at2 sc x h nx : Int) : CsV := if csG nn xs i at2 then csGo ws xs i.toNat (nsV 9 (xs.getD i.toNat default).sg at2 sc x h nx) else csBad 1
def csOut (v : CsV) (a1 : Option Addr) (c1 : Nat) (a2 : Option Addr) (c2 : Nat) : Value := .tuple #[.agg #[.slice a1 v.ct.length c1, .slice a2 v.gs.length c2], .agg #[.int .i64 v.t.1, .int .u64 v.t.2.1, .int .i64 v.t.2.2.1, .int .i64 v.t.2.2.2], .int .i64 v.cd]
theorem msgX_none (D : Nat) (w : World) : MsgX (D + 1) (fun _ => False) (fun _ => False) w none 0 0 [] none 0 0 [] := ⟨⟨own_nil _ _, fun k hk => by simp [Value.ownBlock] at hk⟩, ownKidsX_none D _ w, fun _ h => h.elim⟩
theorem results_cs {fn : Func} {t u z : Tmp} (h : fn.results = #[.cell t 32, .cell u 33, .tmp z]) (tmps : Array Value) (g1 g2 : Nat) (ht : tmps.getD t undef = .pointer (some ⟨g1, 0, none⟩)) (hu : tmps.getD u undef = .pointer (some ⟨g2, 0, none⟩)) (q : Value) (hz : tmps.getD z undef = q) (w : World) (c1 c2 : Array Value)
    (b1 : w.heap[g1]? = some (.cells c1 32 (0, 0))) (b2 : w.heap[g2]? = some (.cells c2 33 (0, 0))) (s1 : c1.size = 2) (s2 : c2.size = 4) : (results fn tmps).run Tryz.prog w = .ok (.tuple #[.agg c1, .agg c2, q]) w := by
  have i1 : (Tryz.prog.info? 32).map (·.size) = some c1.size := by rw [s1]; kernel_rfl
  have i2 : (Tryz.prog.info? 33).map (·.size) = some c2.size := by rw [s2]; kernel_rfl
  have ht' : tmps[t]?.getD undef = .pointer (some ⟨g1, 0, none⟩) := by rw [← ht]; simp
  have hu' : tmps[u]?.getD undef = .pointer (some ⟨g2, 0, none⟩) := by rw [← hu]; simp
  have hz' : tmps[z]?.getD undef = q := by rw [← hz]; simp
  simp [results, h, ht', hu', hz', asAddr, run_loadVar_row w g1 _ _ c1 (0, 0) _ b1 Tryz.underlying32 rfl i1, run_loadVar_row w g2 _ _ c2 (0, 0) _ b2 Tryz.underlying33 rfl i2]
/-- The four boxes. -/
structure Bx4c (G : Nat) (m s rm rs : Array Value) (w : World) : Prop where
  m : w.heap[G]? = some (.cells m 32 (0, 0))
  s : w.heap[G + 1]? = some (.cells s 33 (0, 0))
  rm : w.heap[G + 1 + 1]? = some (.cells rm 32 (0, 0))
  rs : w.heap[G + 1 + 1 + 1]? = some (.cells rs 33 (0, 0))
theorem Bx4c.kept {G : Nat} {m s rm rs : Array Value} {w w' : World} (h : Bx4c G m s rm rs w) (hb : Below w.heap.size w w') : Bx4c G m s rm rs w' := ⟨below_kept h.m hb, below_kept h.s hb, below_kept h.rm hb, below_kept h.rs hb⟩
theorem bx4c_new (w : World) (m s rm rs : Array Value) : Bx4c w.heap.size m s rm rs ((((w.alloc (.cells m 32)).alloc (.cells s 33)).alloc (.cells rm 32)).alloc (.cells rs 33)) ∧ Below w.heap.size w ((((w.alloc (.cells m 32)).alloc (.cells s 33)).alloc (.cells rm 32)).alloc (.cells rs 33)) := by
  have h3 := three_new w (.cells m 32) (.cells s 33) (.cells rm 32)
  have hB : Below (((w.alloc (.cells m 32)).alloc (.cells s 33)).alloc (.cells rm 32)).heap.size (((w.alloc (.cells m 32)).alloc (.cells s 33)).alloc (.cells rm 32)) ((((w.alloc (.cells m 32)).alloc (.cells s 33)).alloc (.cells rm 32)).alloc (.cells rs 33)) := (Below.refl _ _).alloc (Nat.le_refl _) _
  have h4 := heap_alloc_new (((w.alloc (.cells m 32)).alloc (.cells s 33)).alloc (.cells rm 32)) (.cells rs 33)
  have s4 : (((w.alloc (.cells m 32)).alloc (.cells s 33)).alloc (.cells rm 32)).heap.size = w.heap.size + 1 + 1 + 1 := by simp
  rw [s4] at h4
  exact ⟨⟨below_kept h3.1.1 hB, below_kept h3.1.2.1 hB, below_kept h3.1.2.2 hB, h4⟩, keepT h3.2 hB⟩
/-- Both results set back to zero. -/
theorem zeroed {G : Nat} {m s : Array Value} {w : World} (h : Bx4c G m s #[.slice none 0 0, .slice none 0 0] #[.int .i64 0, .int .u64 0, .int .i64 0, .int .i64 0] w) : ∃ w', w' = (((((w.setCell ⟨G + 1 + 1, 0, none⟩ (.slice none 0 0)).setCell ⟨G + 1 + 1, 1, none⟩ (.slice none 0 0)).setCell ⟨G + 1 + 1 + 1, 0, none⟩ (.int .i64 0)).setCell ⟨G + 1 + 1 + 1, 1, none⟩ (.int .u64 0)).setCell ⟨G + 1 + 1 + 1, 2, none⟩ (.int .i64 0)).setCell ⟨G + 1 + 1 + 1, 3, none⟩ (.int .i64 0) ∧ w'.heap[G + 1 + 1]? = some (.cells #[.slice none 0 0, .slice none 0 0] 32 (0, 0)) ∧ w'.heap[G + 1 + 1 + 1]? = some (.cells #[.int .i64 0, .int .u64 0, .int .i64 0, .int .i64 0] 33 (0, 0)) ∧ Touch (G + 1 + 1) (G + 1 + 1 + 1 + 1) w w' := by
  refine ⟨_, rfl, ?_, ?_, ?_⟩
  · have q1 := heap_setCell_same _ (G + 1 + 1) 0 _ _ (.slice none 0 0) h.rm
    have q2 := heap_setCell_same _ (G + 1 + 1) 1 _ _ (.slice none 0 0) q1
    have t : ∀ W j v, Touch (G + 1 + 1 + 1) (G + 1 + 1 + 1 + 1) W (W.setCell ⟨G + 1 + 1 + 1, j, none⟩ v) := fun W j v => touch_setT _ _ _ _ (by omega) (by omega)
    exact touch_kept (t _ 3 _) (touch_kept (t _ 2 _) (touch_kept (t _ 1 _) (touch_kept (t _ 0 _) q2 (by omega)) (by omega)) (by omega)) (by omega)
  · have t : ∀ W j v, Touch (G + 1 + 1) (G + 1 + 1 + 1) W (W.setCell ⟨G + 1 + 1, j, none⟩ v) := fun W j v => touch_setT _ _ _ _ (by omega) (by omega)
    have q0 := touch_kept (t _ 1 (.slice none 0 0)) (touch_kept (t _ 0 (.slice none 0 0)) h.rs (by omega)) (by omega)
    have q1 := heap_setCell_same _ (G + 1 + 1 + 1) 0 _ _ (.int .i64 0) q0
    have q2 := heap_setCell_same _ (G + 1 + 1 + 1) 1 _ _ (.int .u64 0) q1
    have q3 := heap_setCell_same _ (G + 1 + 1 + 1) 2 _ _ (.int .i64 0) q2
    exact heap_setCell_same _ (G + 1 + 1 + 1) 3 _ _ (.int .i64 0) q3
  · have t : ∀ W b j v, b = G + 1 + 1 ∨ b = G + 1 + 1 + 1 → Touch (G + 1 + 1) (G + 1 + 1 + 1 + 1) W (W.setCell ⟨b, j, none⟩ v) := fun W b j v h => touch_setT _ _ _ _ (by omega) (by omega)
    exact (((((t _ _ 0 _ (.inl rfl)).trans (t _ _ 1 _ (.inl rfl))).trans (t _ _ 0 _ (.inr rfl))).trans (t _ _ 1 _ (.inr rfl))).trans (t _ _ 2 _ (.inr rfl))).trans (t _ _ 3 _ (.inr rfl))

end Go.Proofs.YtpnhhhhmonbajaaGreat

set_option linter.unusedVariables false
namespace Go.Proofs.YtpnhhhhmonbajaaGreat
open Go.RowKit

set_option maxRecDepth 10000 in
set_option maxHeartbeats 4000000 in
theorem implCounterSign_bad (D : Nat) (am : Option Addr) (nn cm : Nat) (a : Option Addr) (n c : Nat) (xs : List ItT) (i at2 sc x h nx : Int) (w : World) (hnn : nn ≤ 9223372036854775807) (hk : KidsT D w a n xs) (hi0 : -9223372036854775808 ≤ i) (hi1 : i ≤ 9223372036854775807) (hg : ¬ csG nn xs i at2) :
    Calls Tryz.prog 8 #[.agg #[.slice am nn cm, .slice a n c], .int .i64 i, .int .i64 at2, .agg #[.int .i64 sc, .int .u64 x, .int .i64 h, .int .i64 nx]] w fun e w' => e = .returned (csOut (csBad 1) none 0 none 0) ∧ Below w.heap.size w w' := by
  obtain ⟨w1, hw1⟩ : ∃ w1, w1 = (((w.alloc (.cells #[.slice am nn cm, .slice a n c] 32)).alloc (.cells #[.int .i64 sc, .int .u64 x, .int .i64 h, .int .i64 nx] 33)).alloc (.cells #[.slice none 0 0, .slice none 0 0] 32)).alloc (.cells #[.int .i64 0, .int .u64 0, .int .i64 0, .int .i64 0] 33) := ⟨_, rfl⟩
  have hn4 := bx4c_new w #[.slice am nn cm, .slice a n c] #[.int .i64 sc, .int .u64 x, .int .i64 h, .int .i64 nx] #[.slice none 0 0, .slice none 0 0] #[.int .i64 0, .int .u64 0, .int .i64 0, .int .i64 0]
  rw [← hw1] at hn4
  have hbb := hn4.2
  have HBX : Hid (Bx4c w.heap.size #[.slice am nn cm, .slice a n c] #[.int .i64 sc, .int .u64 x, .int .i64 h, .int .i64 nx] #[.slice none 0 0, .slice none 0 0] #[.int .i64 0, .int .u64 0, .int .i64 0, .int .i64 0] w1) := hn4.1
  have HLX : Hid (xs.length = n) := hk.len.1
  have hn := hk.len.2
  have HKW : Hid (∀ W, Below w1.heap.size w1 W → KidsT D W a n xs) := fun W hW => hk.kept (keepT hbb hW)
  have HW : Hid (_ = _) := hw1
  have HG : Hid (¬ csG nn xs i at2) := hg
  clear hw1 hn4 hk hg
  obtain ⟨x0, x1⟩ := cells2m HBX.out.m
  go_enter Tryz.func8, Tryz.ntmps8
  go_upto_region 1 with fail
  rw [← HW.out]
  clear HW
  go_wp2_with fail
  refine (isRightM_any D am nn cm a n c xs _ hnn (HKW.out _ (Below.refl _ _))).mono ?_
  rintro e w2 ⟨ok, rfl, HOK, hb2⟩
  cases ok with
  | false =>
    clear x0 x1
    obtain ⟨z0, z1⟩ := cells2m (HBX.out.kept hb2).rm
    obtain ⟨v0, v1, v2, v3⟩ := cellsX4 (HBX.out.kept hb2).rs
    have zf0 := frozen_of_row _ _ 0 _ _ (HBX.out.kept hb2).rm
    have zf1 := frozen_of_row _ _ 1 _ _ (HBX.out.kept hb2).rm
    obtain ⟨vf0, vf1, vf2, vf3⟩ := frozenX4 (HBX.out.kept hb2).rs
    obtain ⟨wz, hwz, r1, r2, tz⟩ := zeroed (HBX.out.kept hb2)
    obtain ⟨x0, x1⟩ := cells2m (HBX.out.kept hb2).m
    have HWZ : Hid (_ = _) := hwz
    clear hwz
    go_wp2
    rw [← HWZ.out]
    try simp only [Exit.inBlock, Exit.then]
    exact bodyPost_ret (results_cs rfl _ (w.heap.size + 1 + 1) (w.heap.size + 1 + 1 + 1) rfl rfl _ rfl _ _ _ r1 r2 rfl rfl) rfl ⟨rfl, (keepT hbb hb2).trans (tz.below (by omega) (keepT hbb hb2).size)⟩
  | true =>
  have HM : Hid (msgP nn xs) := HOK.out.1 rfl
  clear HOK x0 x1
  obtain ⟨x0, x1⟩ := cells2m (HBX.out.kept hb2).m
  by_cases hib : 0 ≤ i ∧ i ≤ (n : Int) - 1
  case neg =>
    go_wp2_with fail
    refine (inBounds_f i 0 ((n : Int) - 1) _ hib).mono ?_
    rintro e _ ⟨rfl, rfl⟩
    clear x0 x1
    obtain ⟨z0, z1⟩ := cells2m (HBX.out.kept hb2).rm
    obtain ⟨v0, v1, v2, v3⟩ := cellsX4 (HBX.out.kept hb2).rs
    have zf0 := frozen_of_row _ _ 0 _ _ (HBX.out.kept hb2).rm
    have zf1 := frozen_of_row _ _ 1 _ _ (HBX.out.kept hb2).rm
    obtain ⟨vf0, vf1, vf2, vf3⟩ := frozenX4 (HBX.out.kept hb2).rs
    obtain ⟨wz, hwz, r1, r2, tz⟩ := zeroed (HBX.out.kept hb2)
    obtain ⟨x0, x1⟩ := cells2m (HBX.out.kept hb2).m
    have HWZ : Hid (_ = _) := hwz
    clear hwz
    go_wp2
    rw [← HWZ.out]
    try simp only [Exit.inBlock, Exit.then]
    exact bodyPost_ret (results_cs rfl _ (w.heap.size + 1 + 1) (w.heap.size + 1 + 1 + 1) rfl rfl _ rfl _ _ _ r1 r2 rfl rfl) rfl ⟨rfl, (keepT hbb hb2).trans (tz.below (by omega) (keepT hbb hb2).size)⟩
  go_wp2_with fail
  refine (inBounds_t i 0 ((n : Int) - 1) _ hib).mono ?_
  rintro e _ ⟨rfl, rfl⟩
  by_cases htm : timP at2
  case neg =>
    have htd : decide (timP at2) = false := decide_eq_false htm
    go_wp2_with fail
    refine (isTim_any at2 _).mono ?_
    rintro e _ ⟨rfl, rfl⟩
    rw [htd]
    clear x0 x1
    obtain ⟨z0, z1⟩ := cells2m (HBX.out.kept hb2).rm
    obtain ⟨v0, v1, v2, v3⟩ := cellsX4 (HBX.out.kept hb2).rs
    have zf0 := frozen_of_row _ _ 0 _ _ (HBX.out.kept hb2).rm
    have zf1 := frozen_of_row _ _ 1 _ _ (HBX.out.kept hb2).rm
    obtain ⟨vf0, vf1, vf2, vf3⟩ := frozenX4 (HBX.out.kept hb2).rs
    obtain ⟨wz, hwz, r1, r2, tz⟩ := zeroed (HBX.out.kept hb2)
    obtain ⟨x0, x1⟩ := cells2m (HBX.out.kept hb2).m
    have HWZ : Hid (_ = _) := hwz
    clear hwz
    go_wp2
    rw [← HWZ.out]
    try simp only [Exit.inBlock, Exit.then]
    exact bodyPost_ret (results_cs rfl _ (w.heap.size + 1 + 1) (w.heap.size + 1 + 1 + 1) rfl rfl _ rfl _ _ _ r1 r2 rfl rfl) rfl ⟨rfl, (keepT hbb hb2).trans (tz.below (by omega) (keepT hbb hb2).size)⟩
  have htd : decide (timP at2) = true := decide_eq_true htm
  go_wp2_with fail
  refine (isTim_any at2 _).mono ?_
  rintro e _ ⟨rfl, rfl⟩
  rw [htd]
  clear htd
  obtain ⟨k, rfl⟩ : ∃ k : Nat, i = (k : Int) := ⟨i.toNat, by omega⟩
  have hkn : k < n := by omega
  obtain ⟨D, rfl⟩ : ∃ D', D = D' + 1 := by
    cases D with
    | zero => exact (HKW.out _ (Below.refl _ _)).elim
    | succ D => exact ⟨D, rfl⟩
  obtain ⟨b, off, hA, hlb, ab, nb, cb, ak, nk, ck, e0, e1, e2, e3, hrow, hnil, hnb, hu, hov⟩ := (HKW.out _ hb2).2.2 k hkn
  subst hA
  have h6 : nk = 6 := by
    have hl := hov.len.1
    refine Classical.byContradiction fun hne => HG.out ⟨HM.out, by rw [HLX.out]; exact hib, htm, ?_⟩
    show (xs.getD (k : Int).toNat default).over.length ≠ 6
    rw [Int.toNat_natCast, hl]
    exact hne
  subst h6
  have hki : (k : Int) < (n : Int) := by omega
  clear e0 e1 e2 hrow hnil hnb hu hov HG htm
  clear x0 x1
  obtain ⟨z0, z1⟩ := cells2m (HBX.out.kept hb2).rm
  obtain ⟨v0, v1, v2, v3⟩ := cellsX4 (HBX.out.kept hb2).rs
  have zf0 := frozen_of_row _ _ 0 _ _ (HBX.out.kept hb2).rm
  have zf1 := frozen_of_row _ _ 1 _ _ (HBX.out.kept hb2).rm
  obtain ⟨vf0, vf1, vf2, vf3⟩ := frozenX4 (HBX.out.kept hb2).rs
  obtain ⟨wz, hwz, r1, r2, tz⟩ := zeroed (HBX.out.kept hb2)
  obtain ⟨x0, x1⟩ := cells2m (HBX.out.kept hb2).m
  have HWZ : Hid (_ = _) := hwz
  clear hwz
  go_wp2
  rw [← HWZ.out]
  try simp only [Exit.inBlock, Exit.then]
  exact bodyPost_ret (results_cs rfl _ (w.heap.size + 1 + 1) (w.heap.size + 1 + 1 + 1) rfl rfl _ rfl _ _ _ r1 r2 rfl rfl) rfl ⟨rfl, (keepT hbb hb2).trans (tz.below (by omega) (keepT hbb hb2).size)⟩

set_option maxRecDepth 10000 in
set_option maxHeartbeats 4000000 in
theorem specCounterSign_bad (D : Nat) (am : Option Addr) (nn cm : Nat) (a : Option Addr) (n c : Nat) (xs : List ItT) (i at2 sc x h nx : Int) (w : World) (hnn : nn ≤ 9223372036854775807) (hk : KidsT D w a n xs) (hi0 : -9223372036854775808 ≤ i) (hi1 : i ≤ 9223372036854775807) (hg : ¬ csG nn xs i at2) :
    Calls Tryz.prog 5 #[.agg #[.slice am nn cm, .slice a n c], .int .i64 i, .int .i64 at2, .agg #[.int .i64 sc, .int .u64 x, .int .i64 h, .int .i64 nx]] w fun e w' => e = .returned (csOut (csBad 1) none 0 none 0) ∧ Below w.heap.size w w' := by
  obtain ⟨w1, hw1⟩ : ∃ w1, w1 = (((w.alloc (.cells #[.slice am nn cm, .slice a n c] 32)).alloc (.cells #[.int .i64 sc, .int .u64 x, .int .i64 h, .int .i64 nx] 33)).alloc (.cells #[.slice none 0 0, .slice none 0 0] 32)).alloc (.cells #[.int .i64 0, .int .u64 0, .int .i64 0, .int .i64 0] 33) := ⟨_, rfl⟩
  have hn4 := bx4c_new w #[.slice am nn cm, .slice a n c] #[.int .i64 sc, .int .u64 x, .int .i64 h, .int .i64 nx] #[.slice none 0 0, .slice none 0 0] #[.int .i64 0, .int .u64 0, .int .i64 0, .int .i64 0]
  rw [← hw1] at hn4
  have hbb := hn4.2
  have HBX : Hid (Bx4c w.heap.size #[.slice am nn cm, .slice a n c] #[.int .i64 sc, .int .u64 x, .int .i64 h, .int .i64 nx] #[.slice none 0 0, .slice none 0 0] #[.int .i64 0, .int .u64 0, .int .i64 0, .int .i64 0] w1) := hn4.1
  have HLX : Hid (xs.length = n) := hk.len.1
  have hn := hk.len.2
  have HKW : Hid (∀ W, Below w1.heap.size w1 W → KidsT D W a n xs) := fun W hW => hk.kept (keepT hbb hW)
  have HW : Hid (_ = _) := hw1
  have HG : Hid (¬ csG nn xs i at2) := hg
  clear hw1 hn4 hk hg
  obtain ⟨x0, x1⟩ := cells2m HBX.out.m
  go_enter Tryz.func5, Tryz.ntmps5
  go_upto_region 1 with fail
  rw [← HW.out]
  clear HW
  go_wp2_with fail
  refine (l17Ok_any D am nn cm a n c xs _ hnn (HKW.out _ (Below.refl _ _))).mono ?_
  rintro e w2 ⟨ok, rfl, HOK, hb2⟩
  cases ok with
  | false =>
    clear x0 x1
    obtain ⟨z0, z1⟩ := cells2m (HBX.out.kept hb2).rm
    obtain ⟨v0, v1, v2, v3⟩ := cellsX4 (HBX.out.kept hb2).rs
    have zf0 := frozen_of_row _ _ 0 _ _ (HBX.out.kept hb2).rm
    have zf1 := frozen_of_row _ _ 1 _ _ (HBX.out.kept hb2).rm
    obtain ⟨vf0, vf1, vf2, vf3⟩ := frozenX4 (HBX.out.kept hb2).rs
    obtain ⟨wz, hwz, r1, r2, tz⟩ := zeroed (HBX.out.kept hb2)
    obtain ⟨x0, x1⟩ := cells2m (HBX.out.kept hb2).m
    have HWZ : Hid (_ = _) := hwz
    clear hwz
    go_wp2
    rw [← HWZ.out]
    try simp only [Exit.inBlock, Exit.then]
    exact bodyPost_ret (results_cs rfl _ (w.heap.size + 1 + 1) (w.heap.size + 1 + 1 + 1) rfl rfl _ rfl _ _ _ r1 r2 rfl rfl) rfl ⟨rfl, (keepT hbb hb2).trans (tz.below (by omega) (keepT hbb hb2).size)⟩
  | true =>
  have HM : Hid (msgP nn xs) := HOK.out.1 rfl
  clear HOK x0 x1
  obtain ⟨x0, x1⟩ := cells2m (HBX.out.kept hb2).m
  by_cases hneg : i < 0
  case pos =>
    clear x0 x1
    obtain ⟨z0, z1⟩ := cells2m (HBX.out.kept hb2).rm
    obtain ⟨v0, v1, v2, v3⟩ := cellsX4 (HBX.out.kept hb2).rs
    have zf0 := frozen_of_row _ _ 0 _ _ (HBX.out.kept hb2).rm
    have zf1 := frozen_of_row _ _ 1 _ _ (HBX.out.kept hb2).rm
    obtain ⟨vf0, vf1, vf2, vf3⟩ := frozenX4 (HBX.out.kept hb2).rs
    obtain ⟨wz, hwz, r1, r2, tz⟩ := zeroed (HBX.out.kept hb2)
    obtain ⟨x0, x1⟩ := cells2m (HBX.out.kept hb2).m
    have HWZ : Hid (_ = _) := hwz
    clear hwz
    go_wp2
    rw [← HWZ.out]
    try simp only [Exit.inBlock, Exit.then]
    exact bodyPost_ret (results_cs rfl _ (w.heap.size + 1 + 1) (w.heap.size + 1 + 1 + 1) rfl rfl _ rfl _ _ _ r1 r2 rfl rfl) rfl ⟨rfl, (keepT hbb hb2).trans (tz.below (by omega) (keepT hbb hb2).size)⟩
  by_cases hge : (n : Int) ≤ i
  case pos =>
    clear x0 x1
    obtain ⟨z0, z1⟩ := cells2m (HBX.out.kept hb2).rm
    obtain ⟨v0, v1, v2, v3⟩ := cellsX4 (HBX.out.kept hb2).rs
    have zf0 := frozen_of_row _ _ 0 _ _ (HBX.out.kept hb2).rm
    have zf1 := frozen_of_row _ _ 1 _ _ (HBX.out.kept hb2).rm
    obtain ⟨vf0, vf1, vf2, vf3⟩ := frozenX4 (HBX.out.kept hb2).rs
    obtain ⟨wz, hwz, r1, r2, tz⟩ := zeroed (HBX.out.kept hb2)
    obtain ⟨x0, x1⟩ := cells2m (HBX.out.kept hb2).m
    have HWZ : Hid (_ = _) := hwz
    clear hwz
    go_wp2
    rw [← HWZ.out]
    try simp only [Exit.inBlock, Exit.then]
    exact bodyPost_ret (results_cs rfl _ (w.heap.size + 1 + 1) (w.heap.size + 1 + 1 + 1) rfl rfl _ rfl _ _ _ r1 r2 rfl rfl) rfl ⟨rfl, (keepT hbb hb2).trans (tz.below (by omega) (keepT hbb hb2).size)⟩
  have hib : 0 ≤ i ∧ i ≤ (n : Int) - 1 := by omega
  by_cases htm : timP at2
  case neg =>
    have htd : decide (timP at2) = false := decide_eq_false htm
    go_wp2_with fail
    refine (l10Tim_any at2 _).mono ?_
    rintro e _ ⟨rfl, rfl⟩
    rw [htd]
    clear x0 x1
    obtain ⟨z0, z1⟩ := cells2m (HBX.out.kept hb2).rm
    obtain ⟨v0, v1, v2, v3⟩ := cellsX4 (HBX.out.kept hb2).rs
    have zf0 := frozen_of_row _ _ 0 _ _ (HBX.out.kept hb2).rm
    have zf1 := frozen_of_row _ _ 1 _ _ (HBX.out.kept hb2).rm
    obtain ⟨vf0, vf1, vf2, vf3⟩ := frozenX4 (HBX.out.kept hb2).rs
    obtain ⟨wz, hwz, r1, r2, tz⟩ := zeroed (HBX.out.kept hb2)
    obtain ⟨x0, x1⟩ := cells2m (HBX.out.kept hb2).m
    have HWZ : Hid (_ = _) := hwz
    clear hwz
    go_wp2
    rw [← HWZ.out]
    try simp only [Exit.inBlock, Exit.then]
    exact bodyPost_ret (results_cs rfl _ (w.heap.size + 1 + 1) (w.heap.size + 1 + 1 + 1) rfl rfl _ rfl _ _ _ r1 r2 rfl rfl) rfl ⟨rfl, (keepT hbb hb2).trans (tz.below (by omega) (keepT hbb hb2).size)⟩
  have htd : decide (timP at2) = true := decide_eq_true htm
  go_wp2_with fail
  refine (l10Tim_any at2 _).mono ?_
  rintro e _ ⟨rfl, rfl⟩
  rw [htd]
  clear htd
  obtain ⟨k, rfl⟩ : ∃ k : Nat, i = (k : Int) := ⟨i.toNat, by omega⟩
  have hkn : k < n := by omega
  obtain ⟨D, rfl⟩ : ∃ D', D = D' + 1 := by
    cases D with
    | zero => exact (HKW.out _ (Below.refl _ _)).elim
    | succ D => exact ⟨D, rfl⟩
  obtain ⟨b, off, hA, hlb, ab, nb, cb, ak, nk, ck, e0, e1, e2, e3, hrow, hnil, hnb, hu, hov⟩ := (HKW.out _ hb2).2.2 k hkn
  subst hA
  have h6 : nk = 6 := by
    have hl := hov.len.1
    refine Classical.byContradiction fun hne => HG.out ⟨HM.out, by rw [HLX.out]; exact hib, htm, ?_⟩
    show (xs.getD (k : Int).toNat default).over.length ≠ 6
    rw [Int.toNat_natCast, hl]
    exact hne
  subst h6
  have hki : (k : Int) < (n : Int) := by omega
  clear e0 e1 e2 hrow hnil hnb hu hov HG htm
  clear x0 x1
  obtain ⟨z0, z1⟩ := cells2m (HBX.out.kept hb2).rm
  obtain ⟨v0, v1, v2, v3⟩ := cellsX4 (HBX.out.kept hb2).rs
  have zf0 := frozen_of_row _ _ 0 _ _ (HBX.out.kept hb2).rm
  have zf1 := frozen_of_row _ _ 1 _ _ (HBX.out.kept hb2).rm
  obtain ⟨vf0, vf1, vf2, vf3⟩ := frozenX4 (HBX.out.kept hb2).rs
  obtain ⟨wz, hwz, r1, r2, tz⟩ := zeroed (HBX.out.kept hb2)
  obtain ⟨x0, x1⟩ := cells2m (HBX.out.kept hb2).m
  have HWZ : Hid (_ = _) := hwz
  clear hwz
  go_wp2
  rw [← HWZ.out]
  try simp only [Exit.inBlock, Exit.then]
  exact bodyPost_ret (results_cs rfl _ (w.heap.size + 1 + 1) (w.heap.size + 1 + 1 + 1) rfl rfl _ rfl _ _ _ r1 r2 rfl rfl) rfl ⟨rfl, (keepT hbb hb2).trans (tz.below (by omega) (keepT hbb hb2).size)⟩

end Go.Proofs.YtpnhhhhmonbajaaGreat

set_option linter.unusedVariables false
namespace Go.Proofs.YtpnhhhhmonbajaaGreat
open Go.RowKit Go.Sort

theorem opw_indexX {P : Program} {Q : Exit → Act → World → Prop} {o : Oper} {a : Act} {w : World} {K : Act → World → Prop} (t : TypeId) (x y : Nat) (ho : o.op = .indexAddr t (.tmp x) (.tmp y)) (p q : Value) (hx : aT a x = p) (hy : aT a y = q) (v : Value) (hr : (Instr.indexAt t p q).run P w = .ok v w) (h : K (a.put o.dst v) w) : o.wp P a w K Q := by
  refine opw_value v ?_ h
  have hx' : a.eval (.tmp x) = p := hx
  have hy' : a.eval (.tmp y) = q := hy
  unfold execOp
  simp [ho, hx', hy', hr]
theorem indexSg (bq oq n c kq : Nat) (W : World) (h : kq < n) : (Instr.indexAt 30 (.slice (some ⟨bq, oq, none⟩) n c) (.int .i64 (kq : Int))).run Tryz.prog W = .ok (.pointer (some ⟨bq, oq + kq * 4, none⟩)) W := by
  refine (run_indexAt_slice (P := Tryz.prog) (w := W) 30 ⟨bq, oq, none⟩ n c .i64 (kq : Int) (by kernel_rfl)).trans ?_
  rw [if_pos ⟨by omega, by omega⟩]
  have hs : (sizeOf (Tryz.prog.elem 30)).run Tryz.prog W = .ok 4 W := by kernel_rfl
  rw [hs]
  simp [Result.andThen, Addr.add_lit]

/-- What is known of a region (RJ). -/
def ci3 (am : Option Addr) (nn cm : Nat) (bq oq n c kq : Nat) (ab : Option Addr) (nb cb : Nat) (at2 sc x h nx : Int) (V1 : NsV) (G B : Nat) : RSpec where
  m := 18
  n := 20
  slots := [45, 46, 47, 48, 49, 50, 51, 52, 53, 44, 54, 55, 56, 11, 12, 11, 12, 13, 100018, 100019]
  kills := [[], [], [], [], [], [], [], [], [], [], [], [], [], [15], [16], [], [], [], [], []]
  pres := [[], [], [], [], [], [], [], [], [], [], [], [], [], [], [], [13], [14], [], [], []]
  fact := fun k v w => match k with
    | 0 => v = .pointer (some ⟨G, 1, none⟩)
    | 1 => v = .slice (some ⟨bq, oq, none⟩) n c
    | 2 => v = .int .i64 (kq : Int)
    | 3 => v = .pointer (some ⟨bq, oq + kq * 4, none⟩)
    | 4 => v = .pointer (some ⟨bq, oq + kq * 4 + 2, none⟩)
    | 5 => v = .slice ab nb cb
    | 6 => v = .int .i64 at2
    | 7 => v = .agg #[.int .i64 sc, .int .u64 x, .int .i64 h, .int .i64 nx]
    | 8 => ∃ a2 c2, v = .tuple #[.agg #[.int .u64 V1.k, .int .i64 V1.at2, .slice a2 V1.sg.length c2, .slice none 0 0], .agg #[.int .i64 V1.t.1, .int .u64 V1.t.2.1, .int .i64 V1.t.2.2.1, .int .i64 V1.t.2.2.2], .int .i64 V1.cd] ∧ Own B w a2 V1.sg.length c2 V1.sg
    | 9 => ∃ a2 c2, v = .tuple #[.agg #[.int .u64 V1.k, .int .i64 V1.at2, .slice a2 V1.sg.length c2, .slice none 0 0], .agg #[.int .i64 V1.t.1, .int .u64 V1.t.2.1, .int .i64 V1.t.2.2.1, .int .i64 V1.t.2.2.2], .int .i64 V1.cd] ∧ Own B w a2 V1.sg.length c2 V1.sg
    | 10 => ∃ a2 c2, v = .agg #[.int .u64 V1.k, .int .i64 V1.at2, .slice a2 V1.sg.length c2, .slice none 0 0] ∧ Own B w a2 V1.sg.length c2 V1.sg
    | 11 => v = .agg #[.int .i64 V1.t.1, .int .u64 V1.t.2.1, .int .i64 V1.t.2.2.1, .int .i64 V1.t.2.2.2]
    | 12 => v = .int .i64 V1.cd
    | 13 => ∃ gb13, v = .pointer (some ⟨gb13, 0, none⟩) ∧ w.heap[gb13]? = some (.cells #[.int .u64 0, .int .i64 0, .slice none 0 0, .slice none 0 0] 47 (0, 0)) ∧ B ≤ gb13
    | 14 => ∃ gb14, v = .pointer (some ⟨gb14, 0, none⟩) ∧ w.heap[gb14]? = some (.cells #[.int .i64 0, .int .u64 0, .int .i64 0, .int .i64 0] 33 (0, 0)) ∧ B ≤ gb14
    | 15 => ∃ gs15 a2 c2, v = .pointer (some ⟨gs15, 0, none⟩) ∧ w.heap[gs15]? = some (.cells #[.int .u64 V1.k, .int .i64 V1.at2, .slice a2 V1.sg.length c2, .slice none 0 0] 47 (0, 0)) ∧ B ≤ gs15 ∧ Own B w a2 V1.sg.length c2 V1.sg
    | 16 => ∃ gs16, v = .pointer (some ⟨gs16, 0, none⟩) ∧ w.heap[gs16]? = some (.cells #[.int .i64 V1.t.1, .int .u64 V1.t.2.1, .int .i64 V1.t.2.2.1, .int .i64 V1.t.2.2.2] 33 (0, 0)) ∧ B ≤ gs16
    | 17 => v = .int .i64 V1.cd
    | 18 => w.heap[G]? = some (.cells #[.slice am nn cm, .slice (some ⟨bq, oq, none⟩) n c] 32 (0, 0)) ∧ G < B
    | _ => w.heap[(G + 1)]? = some (.cells #[.int .i64 sc, .int .u64 x, .int .i64 h, .int .i64 nx] 33 (0, 0)) ∧ G + 1 < B
set_option linter.unusedVariables false in
theorem ci3_stb (am : Option Addr) (nn cm : Nat) (bq oq n c kq : Nat) (ab : Option Addr) (nb cb : Nat) (at2 sc x h nx : Int) (V1 : NsV) (G B : Nat) (k : Nat) (hk : k < 20) : StB ((ci3 am nn cm bq oq n c kq ab nb cb at2 sc x h nx V1 G (B)).fact k) := by
  match k, hk with
  | 0, _ => exact fun _ _ _ h _ => h
  | 1, _ => exact fun _ _ _ h _ => h
  | 2, _ => exact fun _ _ _ h _ => h
  | 3, _ => exact fun _ _ _ h _ => h
  | 4, _ => exact fun _ _ _ h _ => h
  | 5, _ => exact fun _ _ _ h _ => h
  | 6, _ => exact fun _ _ _ h _ => h
  | 7, _ => exact fun _ _ _ h _ => h
  | 8, _ => exact fun _ _ _ ⟨a2, c2, hv, q_0⟩ hb => ⟨a2, c2, hv, q_0.kept hb⟩
  | 9, _ => exact fun _ _ _ ⟨a2, c2, hv, q_0⟩ hb => ⟨a2, c2, hv, q_0.kept hb⟩
  | 10, _ => exact fun _ _ _ ⟨a2, c2, hv, q_0⟩ hb => ⟨a2, c2, hv, q_0.kept hb⟩
  | 11, _ => exact fun _ _ _ h _ => h
  | 12, _ => exact fun _ _ _ h _ => h
  | 13, _ => exact fun _ _ _ ⟨gb13, hv, q_0, q_1⟩ hb => ⟨gb13, hv, below_kept q_0 hb, q_1⟩
  | 14, _ => exact fun _ _ _ ⟨gb14, hv, q_0, q_1⟩ hb => ⟨gb14, hv, below_kept q_0 hb, q_1⟩
  | 15, _ => exact fun _ _ _ ⟨gs15, a2, c2, hv, q_0, q_1, q_2⟩ hb => ⟨gs15, a2, c2, hv, below_kept q_0 hb, q_1, q_2.kept hb⟩
  | 16, _ => exact fun _ _ _ ⟨gs16, hv, q_0, q_1⟩ hb => ⟨gs16, hv, below_kept q_0 hb, q_1⟩
  | 17, _ => exact fun _ _ _ h _ => h
  | 18, _ => exact fun _ _ _ ⟨q_0, q_1⟩ hb => ⟨below_kept q_0 hb, q_1⟩
  | 19, _ => exact fun _ _ _ ⟨q_0, q_1⟩ hb => ⟨below_kept q_0 hb, q_1⟩
  | k + 20, hk => omega
set_option linter.unusedVariables false in
theorem ci3_st15 (am : Option Addr) (nn cm : Nat) (bq oq n c kq : Nat) (ab : Option Addr) (nb cb : Nat) (at2 sc x h nx : Int) (V1 : NsV) (G B : Nat) {W W2 : World} {g : Nat} {cs : Array Value} {fr : Nat × Nat} (hg : W.heap[g]? = some (.cells cs 47 fr)) (ht : Touch (g) (g + 1) W W2) (hge : B ≤ g) (k : Nat) (hk : k < 20) (hne : k ≠ 15) (hkill : 15 ∉ (ci3 am nn cm bq oq n c kq ab nb cb at2 sc x h nx V1 G (B)).kill k) (v : Value) (hfact : (ci3 am nn cm bq oq n c kq ab nb cb at2 sc x h nx V1 G (B)).fact k v W) : (ci3 am nn cm bq oq n c kq ab nb cb at2 sc x h nx V1 G (B)).fact k v W2 := by
  match k, hk, hne, hkill, hfact with
  | 0, _, _, _, hq => exact hq
  | 1, _, _, _, hq => exact hq
  | 2, _, _, _, hq => exact hq
  | 3, _, _, _, hq => exact hq
  | 4, _, _, _, hq => exact hq
  | 5, _, _, _, hq => exact hq
  | 6, _, _, _, hq => exact hq
  | 7, _, _, _, hq => exact hq
  | 8, _, _, _, ⟨a2, c2, hv, q_0⟩ => exact ⟨a2, c2, hv, ⟨ownsRow_box q_0.row hg (by decide) ht, q_0.byte⟩⟩
  | 9, _, _, _, ⟨a2, c2, hv, q_0⟩ => exact ⟨a2, c2, hv, ⟨ownsRow_box q_0.row hg (by decide) ht, q_0.byte⟩⟩
  | 10, _, _, _, ⟨a2, c2, hv, q_0⟩ => exact ⟨a2, c2, hv, ⟨ownsRow_box q_0.row hg (by decide) ht, q_0.byte⟩⟩
  | 11, _, _, _, hq => exact hq
  | 12, _, _, _, hq => exact hq
  | 13, _, _, hkill, _ => exact absurd (List.Mem.head _) hkill
  | 14, _, _, _, ⟨gb14, hv, q_0, q_1⟩ => exact ⟨gb14, hv, box_box q_0 hg (by decide) ht, q_1⟩
  | 15, _, hne, _, _ => exact absurd rfl hne
  | 16, _, _, _, ⟨gs16, hv, q_0, q_1⟩ => exact ⟨gs16, hv, box_box q_0 hg (by decide) ht, q_1⟩
  | 17, _, _, _, hq => exact hq
  | 18, _, _, _, ⟨q_0, q_1⟩ => exact ⟨box_box q_0 hg (by decide) ht, q_1⟩
  | 19, _, _, _, ⟨q_0, q_1⟩ => exact ⟨box_box q_0 hg (by decide) ht, q_1⟩
  | k + 20, hk, _, _, _ => omega
set_option linter.unusedVariables false in
theorem ci3_st16 (am : Option Addr) (nn cm : Nat) (bq oq n c kq : Nat) (ab : Option Addr) (nb cb : Nat) (at2 sc x h nx : Int) (V1 : NsV) (G B : Nat) {W W2 : World} {g : Nat} {cs : Array Value} {fr : Nat × Nat} (hg : W.heap[g]? = some (.cells cs 33 fr)) (ht : Touch (g) (g + 1) W W2) (hge : B ≤ g) (k : Nat) (hk : k < 20) (hne : k ≠ 16) (hkill : 16 ∉ (ci3 am nn cm bq oq n c kq ab nb cb at2 sc x h nx V1 G (B)).kill k) (v : Value) (hfact : (ci3 am nn cm bq oq n c kq ab nb cb at2 sc x h nx V1 G (B)).fact k v W) : (ci3 am nn cm bq oq n c kq ab nb cb at2 sc x h nx V1 G (B)).fact k v W2 := by
  match k, hk, hne, hkill, hfact with
  | 0, _, _, _, hq => exact hq
  | 1, _, _, _, hq => exact hq
  | 2, _, _, _, hq => exact hq
  | 3, _, _, _, hq => exact hq
  | 4, _, _, _, hq => exact hq
  | 5, _, _, _, hq => exact hq
  | 6, _, _, _, hq => exact hq
  | 7, _, _, _, hq => exact hq
  | 8, _, _, _, ⟨a2, c2, hv, q_0⟩ => exact ⟨a2, c2, hv, ⟨ownsRow_box q_0.row hg (by decide) ht, q_0.byte⟩⟩
  | 9, _, _, _, ⟨a2, c2, hv, q_0⟩ => exact ⟨a2, c2, hv, ⟨ownsRow_box q_0.row hg (by decide) ht, q_0.byte⟩⟩
  | 10, _, _, _, ⟨a2, c2, hv, q_0⟩ => exact ⟨a2, c2, hv, ⟨ownsRow_box q_0.row hg (by decide) ht, q_0.byte⟩⟩
  | 11, _, _, _, hq => exact hq
  | 12, _, _, _, hq => exact hq
  | 13, _, _, _, ⟨gb13, hv, q_0, q_1⟩ => exact ⟨gb13, hv, box_box q_0 hg (by decide) ht, q_1⟩
  | 14, _, _, hkill, _ => exact absurd (List.Mem.head _) hkill
  | 15, _, _, _, ⟨gs15, a2, c2, hv, q_0, q_1, q_2⟩ => exact ⟨gs15, a2, c2, hv, box_box q_0 hg (by decide) ht, q_1, ⟨ownsRow_box q_2.row hg (by decide) ht, q_2.byte⟩⟩
  | 16, _, hne, _, _ => exact absurd rfl hne
  | 17, _, _, _, hq => exact hq
  | 18, _, _, _, ⟨q_0, q_1⟩ => exact ⟨box_box q_0 hg (by decide) ht, q_1⟩
  | 19, _, _, _, ⟨q_0, q_1⟩ => exact ⟨(ht.block _ (Array.getElem?_eq_some_iff.1 q_0).1 (by omega)).trans q_0, q_1⟩
  | k + 20, hk, _, _, _ => omega

set_option maxRecDepth 10000 in
set_option maxHeartbeats 8000000 in
theorem implCounterSign_code (D : Nat) (am : Option Addr) (nn cm : Nat) (ws : List Int) (a : Option Addr) (n c : Nat) (xs : List ItT) (i at2 sc x h nx : Int) (w : World) (hr : Row w am nn ws) (hcm : am = none → cm = 0) (hnn : nn ≤ 9223372036854775807) (hk : KidsT D w a n xs) (hx : U64 x) (hg : csG nn xs i at2) (V1 : NsV) (hV1 : V1 = nsV 9 (xs.getD i.toNat default).sg at2 sc x h nx) (hcd : ¬ V1.cd = 0) :
    Calls Tryz.prog 8 #[.agg #[.slice am nn cm, .slice a n c], .int .i64 i, .int .i64 at2, .agg #[.int .i64 sc, .int .u64 x, .int .i64 h, .int .i64 nx]] w fun e w' => e = .returned (csOut (csBad V1.cd) none 0 none 0) ∧ Below w.heap.size w w' := by
  obtain ⟨w1, hw1⟩ : ∃ w1, w1 = (((w.alloc (.cells #[.slice am nn cm, .slice a n c] 32)).alloc (.cells #[.int .i64 sc, .int .u64 x, .int .i64 h, .int .i64 nx] 33)).alloc (.cells #[.slice none 0 0, .slice none 0 0] 32)).alloc (.cells #[.int .i64 0, .int .u64 0, .int .i64 0, .int .i64 0] 33) := ⟨_, rfl⟩
  have hn4 := bx4c_new w #[.slice am nn cm, .slice a n c] #[.int .i64 sc, .int .u64 x, .int .i64 h, .int .i64 nx] #[.slice none 0 0, .slice none 0 0] #[.int .i64 0, .int .u64 0, .int .i64 0, .int .i64 0]
  rw [← hw1] at hn4
  have hbb := hn4.2
  have HBX : Hid (Bx4c w.heap.size #[.slice am nn cm, .slice a n c] #[.int .i64 sc, .int .u64 x, .int .i64 h, .int .i64 nx] #[.slice none 0 0, .slice none 0 0] #[.int .i64 0, .int .u64 0, .int .i64 0, .int .i64 0] w1) := hn4.1
  have HLX : Hid (xs.length = n) := hk.len.1
  have hn := hk.len.2
  have HKW : Hid (∀ W, Below w1.heap.size w1 W → KidsT D W a n xs) := fun W hW => hk.kept (keepT hbb hW)
  have HRW : Hid (∀ W, Below w1.heap.size w1 W → Row W am nn ws) := fun W hW => hr.kept (keepT hbb hW)
  have HW : Hid (_ = _) := hw1
  have HM : Hid (msgP nn xs) := hg.1
  have hib : 0 ≤ i ∧ i ≤ (n : Int) - 1 := by have := hg.2.1; rw [HLX.out] at this; exact this
  have htm : timP at2 := hg.2.2.1
  have hov6 := hg.2.2.2
  clear hw1 hn4 hk hg hr
  have htd : decide (timP at2) = true := decide_eq_true htm
  obtain ⟨kq, rfl⟩ : ∃ k : Nat, i = (k : Int) := ⟨i.toNat, by omega⟩
  rw [Int.toNat_natCast] at hov6 hV1
  have HKN : kq < n := by omega
  obtain ⟨D, rfl⟩ : ∃ D', D = D' + 1 := by
    cases D with
    | zero => exact (HKW.out _ (Below.refl _ _)).elim
    | succ D => exact ⟨D, rfl⟩
  obtain ⟨bq, oq, hA, hlb1, ab, nb, cb, ak, nk, ck, e0, e1, e2, e3, hrow, hnil, hnb, hu, hov⟩ := (HKW.out _ (Below.refl _ _)).2.2 kq HKN
  subst hA
  obtain ⟨y, hy⟩ : ∃ y, y = xs.getD kq default := ⟨_, rfl⟩
  rw [← hy] at hrow hov6 hov hV1
  have HY : Hid (y = xs.getD kq default) := hy
  have hnk6 : nk ≠ 6 := by rw [hov.len.1] at hov6; exact hov6
  have hnk7 : nk ≤ 6 := by have := (HM.out.2.2 kq (by rw [HLX.out]; exact HKN)).2.2.1; rw [← hy, hov.len.1] at this; exact this
  have hnb4 : nb ≤ 4000 := by have := (HM.out.2.2 kq (by rw [HLX.out]; exact HKN)).2.1; rw [← hy, hrow.len] at this; omega
  have HCELL : Hid (∀ W, Below w1.heap.size w1 W → W.cell? ⟨bq, oq + kq * 4 + 2, none⟩ = some (.slice ab nb cb) ∧ W.cell? ⟨bq, oq + kq * 4 + 3, none⟩ = some (.slice ak nk ck)) := fun W hW => ⟨(hW.cell (p := ⟨bq, oq + kq * 4 + 2, none⟩) hlb1).trans e2, (hW.cell (p := ⟨bq, oq + kq * 4 + 3, none⟩) hlb1).trans e3⟩
  have hat : -9223372036854775808 ≤ at2 ∧ at2 ≤ 9223372036854775807 := by have h1 := htm.1; have h2 := htm.2; omega
  have HNS : Hid (∀ W, Below w1.heap.size w1 W → Calls Tryz.prog 24 #[.int .i64 9, .slice ab nb cb, .int .i64 at2, .agg #[.int .i64 sc, .int .u64 x, .int .i64 h, .int .i64 nx]] W fun e w' => ∃ a c', e = .returned (nsOut V1 a c') ∧ Own W.heap.size w' a V1.sg.length c' V1.sg ∧ Below W.heap.size W w') := fun W hW => by rw [hV1]; exact newSigner_any 9 ab nb cb y.sg at2 sc x h nx W (hrow.kept hW) hnil.1 hnb4 (by decide) (by decide) hat hx
  clear hy e0 e1 e2 e3 hrow hnil hnb hu hov hV1 hov6
  obtain ⟨x0, x1⟩ := cells2m HBX.out.m
  go_enter Tryz.func8, Tryz.ntmps8
  go_upto_region 1 with fail
  rw [← HW.out]
  clear HW
  go_wp2_with fail
  refine (isRightM_any (D + 1) am nn cm _ n c xs _ hnn (HKW.out _ (Below.refl _ _))).mono ?_
  rintro e w2 ⟨ok, rfl, HOK, hb2⟩
  obtain rfl : ok = true := HOK.out.2 HM.out
  clear HOK x0 x1
  obtain ⟨x0, x1⟩ := cells2m (HBX.out.kept hb2).m
  obtain ⟨y2, y3⟩ := HCELL.out _ hb2
  have hlb : bq < w2.heap.size := Nat.lt_of_lt_of_le hlb1 hb2.size
  have hki : (kq : Int) < (n : Int) := by omega
  go_wp2_with fail
  refine (inBounds_t (kq : Int) 0 ((n : Int) - 1) _ hib).mono ?_
  rintro e w3 ⟨rfl, hw3⟩
  have hw3 := hw3.symm
  subst hw3
  go_wp2_with fail
  refine (isTim_any at2 _).mono ?_
  rintro e w3 ⟨rfl, hw3⟩
  have hw3 := hw3.symm
  subst hw3
  rw [htd]
  clear htd
  have q6 : ((nk : Int) == 6) = false := by simp; omega
  go_upto_region 3 with fail
  have HBB : w2.heap.size ≤ w2.heap.size := Nat.le_refl _
  refine wp_region_ri (ci3 am nn cm bq oq n c kq ab nb cb at2 sc x h nx V1 w.heap.size (w2.heap.size)) [11, 12, 13, 44, 45, 46, 47, 48, 49, 50, 51, 52, 53, 54, 55, 56] (w2.heap.size) (fun a0 => a0.tmps.size = 100 ∧ aT a0 1 = .int .i64 (kq : Int) ∧ aT a0 2 = .int .i64 at2 ∧ aT a0 4 = .pointer (some ⟨w.heap.size, 0, none⟩) ∧ aT a0 7 = .pointer (some ⟨(w.heap.size + 1), 0, none⟩)) (by kernel_rfl) rfl (by kernel_rfl) rfl ⟨rfl, rfl, rfl, rfl, rfl⟩ (ci3_stb am nn cm bq oq n c kq ab nb cb at2 sc x h nx V1 w.heap.size (w2.heap.size)) ?_ ?_ ?_
  · intro k hk hk2
    match k, hk, hk2 with
    | 18, _, _ => exact ⟨(HBX.out.kept hb2).m, by have := (Array.getElem?_eq_some_iff.1 (HBX.out.kept hb2).m).1; omega⟩
    | 19, _, _ => exact ⟨(HBX.out.kept hb2).s, by have := (Array.getElem?_eq_some_iff.1 (HBX.out.kept hb2).s).1; omega⟩
    | 0, hk, _ => exact absurd hk (by show ¬ (18 ≤ 0); omega)
    | 1, hk, _ => exact absurd hk (by show ¬ (18 ≤ 1); omega)
    | 2, hk, _ => exact absurd hk (by show ¬ (18 ≤ 2); omega)
    | 3, hk, _ => exact absurd hk (by show ¬ (18 ≤ 3); omega)
    | 4, hk, _ => exact absurd hk (by show ¬ (18 ≤ 4); omega)
    | 5, hk, _ => exact absurd hk (by show ¬ (18 ≤ 5); omega)
    | 6, hk, _ => exact absurd hk (by show ¬ (18 ≤ 6); omega)
    | 7, hk, _ => exact absurd hk (by show ¬ (18 ≤ 7); omega)
    | 8, hk, _ => exact absurd hk (by show ¬ (18 ≤ 8); omega)
    | 9, hk, _ => exact absurd hk (by show ¬ (18 ≤ 9); omega)
    | 10, hk, _ => exact absurd hk (by show ¬ (18 ≤ 10); omega)
    | 11, hk, _ => exact absurd hk (by show ¬ (18 ≤ 11); omega)
    | 12, hk, _ => exact absurd hk (by show ¬ (18 ≤ 12); omega)
    | 13, hk, _ => exact absurd hk (by show ¬ (18 ≤ 13); omega)
    | 14, hk, _ => exact absurd hk (by show ¬ (18 ≤ 14); omega)
    | 15, hk, _ => exact absurd hk (by show ¬ (18 ≤ 15); omega)
    | 16, hk, _ => exact absurd hk (by show ¬ (18 ≤ 16); omega)
    | 17, hk, _ => exact absurd hk (by show ¬ (18 ≤ 17); omega)
    | k + 20, _, hk2 => exact absurd hk2 (by show ¬ (k + 20 < 20); omega)
  · rintro a0 ⟨hz, g1, g2, g4, g7⟩
    refine StepsRI.cons ?_ (StepsRI.cons ?_ (StepsRI.cons ?_ (StepsRI.cons ?_ (StepsRI.cons ?_ (StepsRI.cons ?_ (StepsRI.cons ?_ (StepsRI.cons ?_ (StepsRI.cons ?_ (StepsRI.cons ?_ (StepsRI.cons ?_ (StepsRI.cons ?_ (StepsRI.cons ?_ (StepsRI.cons ?_ (StepsRI.cons ?_ (StepsRI.cons ?_ (StepsRI.cons ?_ (StepsRI.cons ?_ (StepsRI.nil))))))))))))))))))
    · intro lQ b W hI hUN hED KQ hKQ
      exact opw_field 32 4 1 rfl _ ((hI.fr.same 4 (by decide)).trans g4) _ (by kernel_rfl) (hKQ.out _ _ (hI.put 0 45 rfl rfl (by rw [hz]; decide) rfl hUN rfl HBB (ci3_stb am nn cm bq oq n c kq ab nb cb at2 sc x h nx V1 w.heap.size (w2.heap.size)) (Below.refl _ _) rfl))
    · intro lQ b W hI hUN hED KQ hKQ
      have f := hI.got 0 (of_decide_eq_true rfl) (edge hED 0 (by kernel_rfl)) rfl
      have hg := (hI.vot 18 (of_decide_eq_true rfl) (of_decide_eq_true rfl) rfl).1
      have hc : W.cell? ⟨w.heap.size, 1, none⟩ = some (.slice (some ⟨bq, oq, none⟩) n c) := (cell_of_row _ _ 1 _ _ (0, 0) hg).trans rfl
      exact opw_load1 30 45 rfl _ f _ (by simp [Instr.loadAt, go_sem, hc]) (hKQ.out _ _ (hI.put 1 46 rfl rfl (by rw [hz]; decide) rfl hUN rfl HBB (ci3_stb am nn cm bq oq n c kq ab nb cb at2 sc x h nx V1 w.heap.size (w2.heap.size)) (Below.refl _ _) rfl))
    · intro lQ b W hI hUN hED KQ hKQ
      exact opw_move 1 rfl (hKQ.out _ _ (hI.put 2 47 rfl rfl (by rw [hz]; decide) rfl hUN rfl HBB (ci3_stb am nn cm bq oq n c kq ab nb cb at2 sc x h nx V1 w.heap.size (w2.heap.size)) (Below.refl _ _) ((hI.fr.same 1 (by decide)).trans g1)))
    · intro lQ b W hI hUN hED KQ hKQ
      have f0 : aT b 46 = .slice (some ⟨bq, oq, none⟩) n c := hI.got 1 (of_decide_eq_true rfl) (edge hED 1 (by kernel_rfl)) rfl
      have f1 : aT b 47 = .int .i64 (kq : Int) := hI.got 2 (of_decide_eq_true rfl) (edge hED 2 (by kernel_rfl)) rfl
      exact opw_indexX 30 46 47 rfl _ _ f0 f1 _ (indexSg bq oq n c kq W HKN) (hKQ.out _ _ (hI.put 3 48 rfl rfl (by rw [hz]; decide) rfl hUN rfl HBB (ci3_stb am nn cm bq oq n c kq ab nb cb at2 sc x h nx V1 w.heap.size (w2.heap.size)) (Below.refl _ _) rfl))
    · intro lQ b W hI hUN hED KQ hKQ
      have f : aT b 48 = .pointer (some ⟨bq, oq + kq * 4, none⟩) := hI.got 3 (of_decide_eq_true rfl) (edge hED 3 (by kernel_rfl)) rfl
      exact opw_field 47 48 2 rfl _ f _ (by kernel_rfl) (hKQ.out _ _ (hI.put 4 49 rfl rfl (by rw [hz]; decide) rfl hUN rfl HBB (ci3_stb am nn cm bq oq n c kq ab nb cb at2 sc x h nx V1 w.heap.size (w2.heap.size)) (Below.refl _ _) rfl))
    · intro lQ b W hI hUN hED KQ hKQ
      have f : aT b 49 = .pointer (some ⟨bq, oq + kq * 4 + 2, none⟩) := hI.got 4 (of_decide_eq_true rfl) (edge hED 4 (by kernel_rfl)) rfl
      have hc : W.cell? ⟨bq, oq + kq * 4 + 2, none⟩ = some (.slice ab nb cb) := (HCELL.out W (keepT hb2 hI.bel)).1
      exact opw_load1 22 49 rfl _ f _ (by simp [Instr.loadAt, go_sem, hc]) (hKQ.out _ _ (hI.put 5 50 rfl rfl (by rw [hz]; decide) rfl hUN rfl HBB (ci3_stb am nn cm bq oq n c kq ab nb cb at2 sc x h nx V1 w.heap.size (w2.heap.size)) (Below.refl _ _) rfl))
    · intro lQ b W hI hUN hED KQ hKQ
      exact opw_move 2 rfl (hKQ.out _ _ (hI.put 6 51 rfl rfl (by rw [hz]; decide) rfl hUN rfl HBB (ci3_stb am nn cm bq oq n c kq ab nb cb at2 sc x h nx V1 w.heap.size (w2.heap.size)) (Below.refl _ _) ((hI.fr.same 2 (by decide)).trans g2)))
    · intro lQ b W hI hUN hED KQ hKQ
      have hg := (hI.vot 19 (of_decide_eq_true rfl) (of_decide_eq_true rfl) rfl).1
      refine wp_load_row 33 _ rfl ((w.heap.size + 1)) ((hI.fr.same 7 (by decide)).trans g7) 33 #[.int .i64 sc, .int .u64 x, .int .i64 h, .int .i64 nx] (0, 0) _ hg Tryz.underlying33 rfl (by kernel_rfl) ?_
      exact hKQ.out _ _ (hI.put 7 52 rfl rfl (by rw [hz]; decide) rfl hUN rfl HBB (ci3_stb am nn cm bq oq n c kq ab nb cb at2 sc x h nx V1 w.heap.size (w2.heap.size)) (Below.refl _ _) rfl)
    · intro lQ b W hI hUN hED KQ hKQ
      have f1 := hI.got 5 (of_decide_eq_true rfl) (edge hED 5 (by kernel_rfl)) rfl
      replace f1 : aT b 50 = .slice ab nb cb := f1
      have f2 := hI.got 6 (of_decide_eq_true rfl) (edge hED 6 (by kernel_rfl)) rfl
      replace f2 : aT b 51 = .int .i64 at2 := f2
      have f3 := hI.got 7 (of_decide_eq_true rfl) (edge hED 7 (by kernel_rfl)) rfl
      replace f3 : aT b 52 = .agg #[.int .i64 sc, .int .u64 x, .int .i64 h, .int .i64 nx] := f3
      refine opw_call 24 #[.const (.int .i64 9), .tmp 50, .tmp 51, .tmp 52] _ _ _ rfl Tryz.func24 (by kernel_rfl) rfl #[.int .i64 9, .slice ab nb cb, .int .i64 at2, .agg #[.int .i64 sc, .int .u64 x, .int .i64 h, .int .i64 nx]] (by simp [ev, evc, f1, f2, f3]) ?_
      refine (HNS.out W (keepT hb2 hI.bel)).mono ?_
      rintro e W2 ⟨a2, c2, rfl, ho, hb⟩
      exact ⟨_, rfl, hKQ.out _ _ (hI.put 8 53 rfl rfl (by rw [hz]; decide) rfl hUN rfl HBB (ci3_stb am nn cm bq oq n c kq ab nb cb at2 sc x h nx V1 w.heap.size (w2.heap.size)) hb ⟨a2, c2, rfl, ho.mono (Nat.le_trans HBB hI.bel.size)⟩)⟩
    · intro lQ b W hI hUN hED KQ hKQ
      have f := hI.got 8 (of_decide_eq_true rfl) (edge hED 8 (by kernel_rfl)) rfl
      exact opw_move 53 rfl (hKQ.out _ _ (hI.put 9 44 rfl rfl (by rw [hz]; decide) rfl hUN rfl HBB (ci3_stb am nn cm bq oq n c kq ab nb cb at2 sc x h nx V1 w.heap.size (w2.heap.size)) (Below.refl _ _) f))
    · intro lQ b W hI hUN hED KQ hKQ
      have f := hI.got 9 (of_decide_eq_true rfl) (edge hED 9 (by kernel_rfl)) rfl
      obtain ⟨a2, c2, f, o_0⟩ := f
      exact opw_extract 44 0 rfl _ _ f rfl (hKQ.out _ _ (hI.put 10 54 rfl rfl (by rw [hz]; decide) rfl hUN rfl HBB (ci3_stb am nn cm bq oq n c kq ab nb cb at2 sc x h nx V1 w.heap.size (w2.heap.size)) (Below.refl _ _) ⟨a2, c2, rfl, o_0⟩))
    · intro lQ b W hI hUN hED KQ hKQ
      have f := hI.got 9 (of_decide_eq_true rfl) (edge hED 9 (by kernel_rfl)) rfl
      obtain ⟨a2, c2, f, o_0⟩ := f
      exact opw_extract 44 1 rfl _ _ f rfl (hKQ.out _ _ (hI.put 11 55 rfl rfl (by rw [hz]; decide) rfl hUN rfl HBB (ci3_stb am nn cm bq oq n c kq ab nb cb at2 sc x h nx V1 w.heap.size (w2.heap.size)) (Below.refl _ _) rfl))
    · intro lQ b W hI hUN hED KQ hKQ
      have f := hI.got 9 (of_decide_eq_true rfl) (edge hED 9 (by kernel_rfl)) rfl
      obtain ⟨a2, c2, f, o_0⟩ := f
      exact opw_extract 44 2 rfl _ _ f rfl (hKQ.out _ _ (hI.put 12 56 rfl rfl (by rw [hz]; decide) rfl hUN rfl HBB (ci3_stb am nn cm bq oq n c kq ab nb cb at2 sc x h nx V1 w.heap.size (w2.heap.size)) (Below.refl _ _) rfl))
    · intro lQ b W hI hUN hED KQ hKQ
      refine opw_value (w' := W.alloc (.cells #[.int .u64 0, .int .i64 0, .slice none 0 0, .slice none 0 0] 47)) (.pointer (some ⟨W.heap.size, 0, none⟩)) (by kernel_rfl) ?_
      exact hKQ.out _ _ (hI.put 13 11 rfl rfl (by rw [hz]; decide) rfl hUN rfl HBB (ci3_stb am nn cm bq oq n c kq ab nb cb at2 sc x h nx V1 w.heap.size (w2.heap.size)) ((Below.refl _ _).alloc (Nat.le_refl _) _) ⟨W.heap.size, rfl, heap_alloc_new W _, Nat.le_trans HBB hI.bel.size⟩)
    · intro lQ b W hI hUN hED KQ hKQ
      refine opw_value (w' := W.alloc (.cells #[.int .i64 0, .int .u64 0, .int .i64 0, .int .i64 0] 33)) (.pointer (some ⟨W.heap.size, 0, none⟩)) (by kernel_rfl) ?_
      exact hKQ.out _ _ (hI.put 14 12 rfl rfl (by rw [hz]; decide) rfl hUN rfl HBB (ci3_stb am nn cm bq oq n c kq ab nb cb at2 sc x h nx V1 w.heap.size (w2.heap.size)) ((Below.refl _ _).alloc (Nat.le_refl _) _) ⟨W.heap.size, rfl, heap_alloc_new W _, Nat.le_trans HBB hI.bel.size⟩)
    · intro lQ b W hI hUN hED KQ hKQ
      obtain ⟨g, fb, hgb, hge⟩ := hI.got1 13 15 (of_decide_eq_true rfl) (edge hED 13 (by kernel_rfl)) hUN rfl
      have f := hI.got 10 (of_decide_eq_true rfl) (edge hED 10 (by kernel_rfl)) rfl
      obtain ⟨a2, c2, f, o_0⟩ := f
      refine wp_store_row 47 _ _ rfl g #[.int .u64 V1.k, .int .i64 V1.at2, .slice a2 V1.sg.length c2, .slice none 0 0] fb f 47 _ hgb (by kernel_rfl) rfl (by simp [Value.oneCell']) ?_
      have ht := setRow_touch W g #[.int .u64 V1.k, .int .i64 V1.at2, .slice a2 V1.sg.length c2, .slice none 0 0]
      exact hKQ.out _ _ (hI.store 15 (fun j hj => by
          rcases List.mem_singleton.1 hj with rfl
          exact edge hED 13 (by kernel_rfl)) (hI.bel.trans (ht.below hge (Nat.le_trans HBB hI.bel.size))) (ci3_st15 am nn cm bq oq n c kq ab nb cb at2 sc x h nx V1 w.heap.size (w2.heap.size) hgb ht hge) ⟨g, a2, c2, fb, (setRow_heap W g _ _ _ _ hgb), hge, ⟨ownsRow_box o_0.row hgb (by decide) ht, o_0.byte⟩⟩)
    · intro lQ b W hI hUN hED KQ hKQ
      obtain ⟨g, fb, hgb, hge⟩ := hI.got1 14 16 (of_decide_eq_true rfl) (edge hED 14 (by kernel_rfl)) hUN rfl
      have f := hI.got 11 (of_decide_eq_true rfl) (edge hED 11 (by kernel_rfl)) rfl
      refine wp_store_row 33 _ _ rfl g #[.int .i64 V1.t.1, .int .u64 V1.t.2.1, .int .i64 V1.t.2.2.1, .int .i64 V1.t.2.2.2] fb f 33 _ hgb (by kernel_rfl) rfl (by simp [Value.oneCell']) ?_
      have ht := setRow_touch W g #[.int .i64 V1.t.1, .int .u64 V1.t.2.1, .int .i64 V1.t.2.2.1, .int .i64 V1.t.2.2.2]
      exact hKQ.out _ _ (hI.store 16 (fun j hj => by
          rcases List.mem_singleton.1 hj with rfl
          exact edge hED 14 (by kernel_rfl)) (hI.bel.trans (ht.below hge (Nat.le_trans HBB hI.bel.size))) (ci3_st16 am nn cm bq oq n c kq ab nb cb at2 sc x h nx V1 w.heap.size (w2.heap.size) hgb ht hge) ⟨g, fb, (setRow_heap W g _ _ _ _ hgb), hge⟩)
    · intro lQ b W hI hUN hED KQ hKQ
      have f := hI.got 12 (of_decide_eq_true rfl) (edge hED 12 (by kernel_rfl)) rfl
      exact opw_assign 56 rfl (hKQ.out _ _ (hI.put 17 13 rfl rfl (by rw [hz]; decide) rfl hUN rfl HBB (ci3_stb am nn cm bq oq n c kq ab nb cb at2 sc x h nx V1 w.heap.size (w2.heap.size)) (Below.refl _ _) f))
  · intro b W hf hb F
    have e13 := F 17 (of_decide_eq_true rfl) rfl
    have e11 := F 15 (of_decide_eq_true rfl) rfl
    have e12 := F 16 (of_decide_eq_true rfl) rfl
    obtain ⟨gq, a2, c2, e11, hgq, hgqe, ho⟩ := e11
    obtain ⟨gt, e12, hgt, hgte⟩ := e12
    replace e13 : aT b 13 = _ := e13
    replace e11 : aT b 11 = _ := e11
    replace e12 : aT b 12 = _ := e12
    rw [hf.eq]
    simp only [puts, Act.put, List.setIfInBounds_toArray, List.set_cons_zero, List.set_cons_succ, e11, e12, e13]
    clear hf F e11 e12 e13
    generalize aT b = AT
    clear b
    have hbW : Below w1.heap.size w1 W := keepT hb2 hb
    have z5 : (V1.cd != 0) = true := by simp [hcd]
    have z6 : ¬ V1.cd = 0 := hcd
    clear x0 x1 y2 y3 hgq hgqe ho hgt hgte
    obtain ⟨z0, z1⟩ := cells2m (HBX.out.kept hbW).rm
    obtain ⟨v0, v1, v2, v3⟩ := cellsX4 (HBX.out.kept hbW).rs
    have zf0 := frozen_of_row _ _ 0 _ _ (HBX.out.kept hbW).rm
    have zf1 := frozen_of_row _ _ 1 _ _ (HBX.out.kept hbW).rm
    obtain ⟨vf0, vf1, vf2, vf3⟩ := frozenX4 (HBX.out.kept hbW).rs
    obtain ⟨wz, hwz, r1, r2, tz⟩ := zeroed (HBX.out.kept hbW)
    have HWZ : Hid (_ = _) := hwz
    clear hwz
    go_wp2
    rw [← HWZ.out]
    try simp only [Exit.inBlock, Exit.then]
    exact bodyPost_ret (results_cs rfl _ (w.heap.size + 1 + 1) (w.heap.size + 1 + 1 + 1) rfl rfl _ rfl _ _ _ r1 r2 rfl rfl) rfl ⟨rfl, (keepT hbb hbW).trans (tz.below (by omega) (keepT hbb hbW).size)⟩

end Go.Proofs.YtpnhhhhmonbajaaGreat

set_option linter.unusedVariables false
namespace Go.Proofs.YtpnhhhhmonbajaaGreat
open Go.RowKit Go.Sort

/-- What is known of a region (RJ). -/
def cs3 (am : Option Addr) (nn cm : Nat) (bq oq n c kq : Nat) (ab : Option Addr) (nb cb : Nat) (at2 sc x h nx : Int) (V1 : NsV) (G B : Nat) : RSpec where
  m := 18
  n := 20
  slots := [46, 47, 48, 49, 50, 51, 52, 53, 54, 45, 55, 56, 57, 11, 12, 11, 12, 13, 100018, 100019]
  kills := [[], [], [], [], [], [], [], [], [], [], [], [], [], [15], [16], [], [], [], [], []]
  pres := [[], [], [], [], [], [], [], [], [], [], [], [], [], [], [], [13], [14], [], [], []]
  fact := fun k v w => match k with
    | 0 => v = .pointer (some ⟨G, 1, none⟩)
    | 1 => v = .slice (some ⟨bq, oq, none⟩) n c
    | 2 => v = .int .i64 (kq : Int)
    | 3 => v = .pointer (some ⟨bq, oq + kq * 4, none⟩)
    | 4 => v = .pointer (some ⟨bq, oq + kq * 4 + 2, none⟩)
    | 5 => v = .slice ab nb cb
    | 6 => v = .int .i64 at2
    | 7 => v = .agg #[.int .i64 sc, .int .u64 x, .int .i64 h, .int .i64 nx]
    | 8 => ∃ a2 c2, v = .tuple #[.agg #[.int .u64 V1.k, .int .i64 V1.at2, .slice a2 V1.sg.length c2, .slice none 0 0], .agg #[.int .i64 V1.t.1, .int .u64 V1.t.2.1, .int .i64 V1.t.2.2.1, .int .i64 V1.t.2.2.2], .int .i64 V1.cd] ∧ Own B w a2 V1.sg.length c2 V1.sg
    | 9 => ∃ a2 c2, v = .tuple #[.agg #[.int .u64 V1.k, .int .i64 V1.at2, .slice a2 V1.sg.length c2, .slice none 0 0], .agg #[.int .i64 V1.t.1, .int .u64 V1.t.2.1, .int .i64 V1.t.2.2.1, .int .i64 V1.t.2.2.2], .int .i64 V1.cd] ∧ Own B w a2 V1.sg.length c2 V1.sg
    | 10 => ∃ a2 c2, v = .agg #[.int .u64 V1.k, .int .i64 V1.at2, .slice a2 V1.sg.length c2, .slice none 0 0] ∧ Own B w a2 V1.sg.length c2 V1.sg
    | 11 => v = .agg #[.int .i64 V1.t.1, .int .u64 V1.t.2.1, .int .i64 V1.t.2.2.1, .int .i64 V1.t.2.2.2]
    | 12 => v = .int .i64 V1.cd
    | 13 => ∃ gb13, v = .pointer (some ⟨gb13, 0, none⟩) ∧ w.heap[gb13]? = some (.cells #[.int .u64 0, .int .i64 0, .slice none 0 0, .slice none 0 0] 47 (0, 0)) ∧ B ≤ gb13
    | 14 => ∃ gb14, v = .pointer (some ⟨gb14, 0, none⟩) ∧ w.heap[gb14]? = some (.cells #[.int .i64 0, .int .u64 0, .int .i64 0, .int .i64 0] 33 (0, 0)) ∧ B ≤ gb14
    | 15 => ∃ gs15 a2 c2, v = .pointer (some ⟨gs15, 0, none⟩) ∧ w.heap[gs15]? = some (.cells #[.int .u64 V1.k, .int .i64 V1.at2, .slice a2 V1.sg.length c2, .slice none 0 0] 47 (0, 0)) ∧ B ≤ gs15 ∧ Own B w a2 V1.sg.length c2 V1.sg
    | 16 => ∃ gs16, v = .pointer (some ⟨gs16, 0, none⟩) ∧ w.heap[gs16]? = some (.cells #[.int .i64 V1.t.1, .int .u64 V1.t.2.1, .int .i64 V1.t.2.2.1, .int .i64 V1.t.2.2.2] 33 (0, 0)) ∧ B ≤ gs16
    | 17 => v = .int .i64 V1.cd
    | 18 => w.heap[G]? = some (.cells #[.slice am nn cm, .slice (some ⟨bq, oq, none⟩) n c] 32 (0, 0)) ∧ G < B
    | _ => w.heap[(G + 1)]? = some (.cells #[.int .i64 sc, .int .u64 x, .int .i64 h, .int .i64 nx] 33 (0, 0)) ∧ G + 1 < B
set_option linter.unusedVariables false in
theorem cs3_stb (am : Option Addr) (nn cm : Nat) (bq oq n c kq : Nat) (ab : Option Addr) (nb cb : Nat) (at2 sc x h nx : Int) (V1 : NsV) (G B : Nat) (k : Nat) (hk : k < 20) : StB ((cs3 am nn cm bq oq n c kq ab nb cb at2 sc x h nx V1 G (B)).fact k) := by
  match k, hk with
  | 0, _ => exact fun _ _ _ h _ => h
  | 1, _ => exact fun _ _ _ h _ => h
  | 2, _ => exact fun _ _ _ h _ => h
  | 3, _ => exact fun _ _ _ h _ => h
  | 4, _ => exact fun _ _ _ h _ => h
  | 5, _ => exact fun _ _ _ h _ => h
  | 6, _ => exact fun _ _ _ h _ => h
  | 7, _ => exact fun _ _ _ h _ => h
  | 8, _ => exact fun _ _ _ ⟨a2, c2, hv, q_0⟩ hb => ⟨a2, c2, hv, q_0.kept hb⟩
  | 9, _ => exact fun _ _ _ ⟨a2, c2, hv, q_0⟩ hb => ⟨a2, c2, hv, q_0.kept hb⟩
  | 10, _ => exact fun _ _ _ ⟨a2, c2, hv, q_0⟩ hb => ⟨a2, c2, hv, q_0.kept hb⟩
  | 11, _ => exact fun _ _ _ h _ => h
  | 12, _ => exact fun _ _ _ h _ => h
  | 13, _ => exact fun _ _ _ ⟨gb13, hv, q_0, q_1⟩ hb => ⟨gb13, hv, below_kept q_0 hb, q_1⟩
  | 14, _ => exact fun _ _ _ ⟨gb14, hv, q_0, q_1⟩ hb => ⟨gb14, hv, below_kept q_0 hb, q_1⟩
  | 15, _ => exact fun _ _ _ ⟨gs15, a2, c2, hv, q_0, q_1, q_2⟩ hb => ⟨gs15, a2, c2, hv, below_kept q_0 hb, q_1, q_2.kept hb⟩
  | 16, _ => exact fun _ _ _ ⟨gs16, hv, q_0, q_1⟩ hb => ⟨gs16, hv, below_kept q_0 hb, q_1⟩
  | 17, _ => exact fun _ _ _ h _ => h
  | 18, _ => exact fun _ _ _ ⟨q_0, q_1⟩ hb => ⟨below_kept q_0 hb, q_1⟩
  | 19, _ => exact fun _ _ _ ⟨q_0, q_1⟩ hb => ⟨below_kept q_0 hb, q_1⟩
  | k + 20, hk => omega
set_option linter.unusedVariables false in
theorem cs3_st15 (am : Option Addr) (nn cm : Nat) (bq oq n c kq : Nat) (ab : Option Addr) (nb cb : Nat) (at2 sc x h nx : Int) (V1 : NsV) (G B : Nat) {W W2 : World} {g : Nat} {cs : Array Value} {fr : Nat × Nat} (hg : W.heap[g]? = some (.cells cs 47 fr)) (ht : Touch (g) (g + 1) W W2) (hge : B ≤ g) (k : Nat) (hk : k < 20) (hne : k ≠ 15) (hkill : 15 ∉ (cs3 am nn cm bq oq n c kq ab nb cb at2 sc x h nx V1 G (B)).kill k) (v : Value) (hfact : (cs3 am nn cm bq oq n c kq ab nb cb at2 sc x h nx V1 G (B)).fact k v W) : (cs3 am nn cm bq oq n c kq ab nb cb at2 sc x h nx V1 G (B)).fact k v W2 := by
  match k, hk, hne, hkill, hfact with
  | 0, _, _, _, hq => exact hq
  | 1, _, _, _, hq => exact hq
  | 2, _, _, _, hq => exact hq
  | 3, _, _, _, hq => exact hq
  | 4, _, _, _, hq => exact hq
  | 5, _, _, _, hq => exact hq
  | 6, _, _, _, hq => exact hq
  | 7, _, _, _, hq => exact hq
  | 8, _, _, _, ⟨a2, c2, hv, q_0⟩ => exact ⟨a2, c2, hv, ⟨ownsRow_box q_0.row hg (by decide) ht, q_0.byte⟩⟩
  | 9, _, _, _, ⟨a2, c2, hv, q_0⟩ => exact ⟨a2, c2, hv, ⟨ownsRow_box q_0.row hg (by decide) ht, q_0.byte⟩⟩
  | 10, _, _, _, ⟨a2, c2, hv, q_0⟩ => exact ⟨a2, c2, hv, ⟨ownsRow_box q_0.row hg (by decide) ht, q_0.byte⟩⟩
  | 11, _, _, _, hq => exact hq
  | 12, _, _, _, hq => exact hq
  | 13, _, _, hkill, _ => exact absurd (List.Mem.head _) hkill
  | 14, _, _, _, ⟨gb14, hv, q_0, q_1⟩ => exact ⟨gb14, hv, box_box q_0 hg (by decide) ht, q_1⟩
  | 15, _, hne, _, _ => exact absurd rfl hne
  | 16, _, _, _, ⟨gs16, hv, q_0, q_1⟩ => exact ⟨gs16, hv, box_box q_0 hg (by decide) ht, q_1⟩
  | 17, _, _, _, hq => exact hq
  | 18, _, _, _, ⟨q_0, q_1⟩ => exact ⟨box_box q_0 hg (by decide) ht, q_1⟩
  | 19, _, _, _, ⟨q_0, q_1⟩ => exact ⟨box_box q_0 hg (by decide) ht, q_1⟩
  | k + 20, hk, _, _, _ => omega
set_option linter.unusedVariables false in
theorem cs3_st16 (am : Option Addr) (nn cm : Nat) (bq oq n c kq : Nat) (ab : Option Addr) (nb cb : Nat) (at2 sc x h nx : Int) (V1 : NsV) (G B : Nat) {W W2 : World} {g : Nat} {cs : Array Value} {fr : Nat × Nat} (hg : W.heap[g]? = some (.cells cs 33 fr)) (ht : Touch (g) (g + 1) W W2) (hge : B ≤ g) (k : Nat) (hk : k < 20) (hne : k ≠ 16) (hkill : 16 ∉ (cs3 am nn cm bq oq n c kq ab nb cb at2 sc x h nx V1 G (B)).kill k) (v : Value) (hfact : (cs3 am nn cm bq oq n c kq ab nb cb at2 sc x h nx V1 G (B)).fact k v W) : (cs3 am nn cm bq oq n c kq ab nb cb at2 sc x h nx V1 G (B)).fact k v W2 := by
  match k, hk, hne, hkill, hfact with
  | 0, _, _, _, hq => exact hq
  | 1, _, _, _, hq => exact hq
  | 2, _, _, _, hq => exact hq
  | 3, _, _, _, hq => exact hq
  | 4, _, _, _, hq => exact hq
  | 5, _, _, _, hq => exact hq
  | 6, _, _, _, hq => exact hq
  | 7, _, _, _, hq => exact hq
  | 8, _, _, _, ⟨a2, c2, hv, q_0⟩ => exact ⟨a2, c2, hv, ⟨ownsRow_box q_0.row hg (by decide) ht, q_0.byte⟩⟩
  | 9, _, _, _, ⟨a2, c2, hv, q_0⟩ => exact ⟨a2, c2, hv, ⟨ownsRow_box q_0.row hg (by decide) ht, q_0.byte⟩⟩
  | 10, _, _, _, ⟨a2, c2, hv, q_0⟩ => exact ⟨a2, c2, hv, ⟨ownsRow_box q_0.row hg (by decide) ht, q_0.byte⟩⟩
  | 11, _, _, _, hq => exact hq
  | 12, _, _, _, hq => exact hq
  | 13, _, _, _, ⟨gb13, hv, q_0, q_1⟩ => exact ⟨gb13, hv, box_box q_0 hg (by decide) ht, q_1⟩
  | 14, _, _, hkill, _ => exact absurd (List.Mem.head _) hkill
  | 15, _, _, _, ⟨gs15, a2, c2, hv, q_0, q_1, q_2⟩ => exact ⟨gs15, a2, c2, hv, box_box q_0 hg (by decide) ht, q_1, ⟨ownsRow_box q_2.row hg (by decide) ht, q_2.byte⟩⟩
  | 16, _, hne, _, _ => exact absurd rfl hne
  | 17, _, _, _, hq => exact hq
  | 18, _, _, _, ⟨q_0, q_1⟩ => exact ⟨box_box q_0 hg (by decide) ht, q_1⟩
  | 19, _, _, _, ⟨q_0, q_1⟩ => exact ⟨(ht.block _ (Array.getElem?_eq_some_iff.1 q_0).1 (by omega)).trans q_0, q_1⟩
  | k + 20, hk, _, _, _ => omega

set_option maxRecDepth 10000 in
set_option maxHeartbeats 8000000 in
theorem specCounterSign_code (HSPEC : ∀ (seed h next : Int) (am : Option Addr) (n c : Nat) (bs : List Int) (w : World), U64 seed → Row w am n bs → n ≤ 1000000000000 → Calls Tryz.prog 50 #[tkv seed h next, .slice am n c] w fun e w' => ∃ v, e = .returned v ∧ SgR seed h next bs w.heap.size w' v ∧ Below w.heap.size w w') (D : Nat) (am : Option Addr) (nn cm : Nat) (ws : List Int) (a : Option Addr) (n c : Nat) (xs : List ItT) (i at2 sc x h nx : Int) (w : World) (hr : Row w am nn ws) (hcm : am = none → cm = 0) (hnn : nn ≤ 9223372036854775807) (hk : KidsT D w a n xs) (hx : U64 x) (hg : csG nn xs i at2) (V1 : NsV) (hV1 : V1 = nsV 9 (xs.getD i.toNat default).sg at2 sc x h nx) (hcd : ¬ V1.cd = 0) :
    Calls Tryz.prog 5 #[.agg #[.slice am nn cm, .slice a n c], .int .i64 i, .int .i64 at2, .agg #[.int .i64 sc, .int .u64 x, .int .i64 h, .int .i64 nx]] w fun e w' => e = .returned (csOut (csBad V1.cd) none 0 none 0) ∧ Below w.heap.size w w' := by
  obtain ⟨w1, hw1⟩ : ∃ w1, w1 = (((w.alloc (.cells #[.slice am nn cm, .slice a n c] 32)).alloc (.cells #[.int .i64 sc, .int .u64 x, .int .i64 h, .int .i64 nx] 33)).alloc (.cells #[.slice none 0 0, .slice none 0 0] 32)).alloc (.cells #[.int .i64 0, .int .u64 0, .int .i64 0, .int .i64 0] 33) := ⟨_, rfl⟩
  have hn4 := bx4c_new w #[.slice am nn cm, .slice a n c] #[.int .i64 sc, .int .u64 x, .int .i64 h, .int .i64 nx] #[.slice none 0 0, .slice none 0 0] #[.int .i64 0, .int .u64 0, .int .i64 0, .int .i64 0]
  rw [← hw1] at hn4
  have hbb := hn4.2
  have HBX : Hid (Bx4c w.heap.size #[.slice am nn cm, .slice a n c] #[.int .i64 sc, .int .u64 x, .int .i64 h, .int .i64 nx] #[.slice none 0 0, .slice none 0 0] #[.int .i64 0, .int .u64 0, .int .i64 0, .int .i64 0] w1) := hn4.1
  have HLX : Hid (xs.length = n) := hk.len.1
  have hn := hk.len.2
  have HKW : Hid (∀ W, Below w1.heap.size w1 W → KidsT D W a n xs) := fun W hW => hk.kept (keepT hbb hW)
  have HRW : Hid (∀ W, Below w1.heap.size w1 W → Row W am nn ws) := fun W hW => hr.kept (keepT hbb hW)
  have HW : Hid (_ = _) := hw1
  have HM : Hid (msgP nn xs) := hg.1
  have hib : 0 ≤ i ∧ i ≤ (n : Int) - 1 := by have := hg.2.1; rw [HLX.out] at this; exact this
  have htm : timP at2 := hg.2.2.1
  have hov6 := hg.2.2.2
  clear hw1 hn4 hk hg hr
  have htd : decide (timP at2) = true := decide_eq_true htm
  obtain ⟨kq, rfl⟩ : ∃ k : Nat, i = (k : Int) := ⟨i.toNat, by omega⟩
  rw [Int.toNat_natCast] at hov6 hV1
  have HKN : kq < n := by omega
  obtain ⟨D, rfl⟩ : ∃ D', D = D' + 1 := by
    cases D with
    | zero => exact (HKW.out _ (Below.refl _ _)).elim
    | succ D => exact ⟨D, rfl⟩
  obtain ⟨bq, oq, hA, hlb1, ab, nb, cb, ak, nk, ck, e0, e1, e2, e3, hrow, hnil, hnb, hu, hov⟩ := (HKW.out _ (Below.refl _ _)).2.2 kq HKN
  subst hA
  obtain ⟨y, hy⟩ : ∃ y, y = xs.getD kq default := ⟨_, rfl⟩
  rw [← hy] at hrow hov6 hov hV1
  have HY : Hid (y = xs.getD kq default) := hy
  have hnk6 : nk ≠ 6 := by rw [hov.len.1] at hov6; exact hov6
  have hnk7 : nk ≤ 6 := by have := (HM.out.2.2 kq (by rw [HLX.out]; exact HKN)).2.2.1; rw [← hy, hov.len.1] at this; exact this
  have hnb4 : nb ≤ 4000 := by have := (HM.out.2.2 kq (by rw [HLX.out]; exact HKN)).2.1; rw [← hy, hrow.len] at this; omega
  have HCELL : Hid (∀ W, Below w1.heap.size w1 W → W.cell? ⟨bq, oq + kq * 4 + 2, none⟩ = some (.slice ab nb cb) ∧ W.cell? ⟨bq, oq + kq * 4 + 3, none⟩ = some (.slice ak nk ck)) := fun W hW => ⟨(hW.cell (p := ⟨bq, oq + kq * 4 + 2, none⟩) hlb1).trans e2, (hW.cell (p := ⟨bq, oq + kq * 4 + 3, none⟩) hlb1).trans e3⟩
  have hat : -9223372036854775808 ≤ at2 ∧ at2 ≤ 9223372036854775807 := by have h1 := htm.1; have h2 := htm.2; omega
  have HNS : Hid (∀ W, Below w1.heap.size w1 W → Calls Tryz.prog 17 #[.int .i64 9, .slice ab nb cb, .int .i64 at2, .agg #[.int .i64 sc, .int .u64 x, .int .i64 h, .int .i64 nx]] W fun e w' => ∃ a c', e = .returned (nsOut V1 a c') ∧ Own W.heap.size w' a V1.sg.length c' V1.sg ∧ Below W.heap.size W w') := fun W hW => by rw [hV1]; exact l17Sign_any HSPEC 9 ab nb cb y.sg at2 sc x h nx W (hrow.kept hW) hnil.1 hnb4 (by decide) (by decide) hat hx
  clear hy e0 e1 e2 e3 hrow hnil hnb hu hov hV1 hov6
  obtain ⟨x0, x1⟩ := cells2m HBX.out.m
  go_enter Tryz.func5, Tryz.ntmps5
  go_upto_region 1 with fail
  rw [← HW.out]
  clear HW
  go_wp2_with fail
  refine (l17Ok_any (D + 1) am nn cm _ n c xs _ hnn (HKW.out _ (Below.refl _ _))).mono ?_
  rintro e w2 ⟨ok, rfl, HOK, hb2⟩
  obtain rfl : ok = true := HOK.out.2 HM.out
  clear HOK x0 x1
  obtain ⟨x0, x1⟩ := cells2m (HBX.out.kept hb2).m
  obtain ⟨y2, y3⟩ := HCELL.out _ hb2
  have hlb : bq < w2.heap.size := Nat.lt_of_lt_of_le hlb1 hb2.size
  have hki : (kq : Int) < (n : Int) := by omega
  go_wp2_with fail
  refine (l10Tim_any at2 _).mono ?_
  rintro e w3 ⟨rfl, hw3⟩
  have hw3 := hw3.symm
  subst hw3
  rw [htd]
  clear htd
  have q6 : ((nk : Int) == 6) = false := by simp; omega
  go_upto_region 3 with fail
  have HBB : w2.heap.size ≤ w2.heap.size := Nat.le_refl _
  refine wp_region_ri (cs3 am nn cm bq oq n c kq ab nb cb at2 sc x h nx V1 w.heap.size (w2.heap.size)) [11, 12, 13, 45, 46, 47, 48, 49, 50, 51, 52, 53, 54, 55, 56, 57] (w2.heap.size) (fun a0 => a0.tmps.size = 96 ∧ aT a0 1 = .int .i64 (kq : Int) ∧ aT a0 2 = .int .i64 at2 ∧ aT a0 4 = .pointer (some ⟨w.heap.size, 0, none⟩) ∧ aT a0 7 = .pointer (some ⟨(w.heap.size + 1), 0, none⟩)) (by kernel_rfl) rfl (by kernel_rfl) rfl ⟨rfl, rfl, rfl, rfl, rfl⟩ (cs3_stb am nn cm bq oq n c kq ab nb cb at2 sc x h nx V1 w.heap.size (w2.heap.size)) ?_ ?_ ?_
  · intro k hk hk2
    match k, hk, hk2 with
    | 18, _, _ => exact ⟨(HBX.out.kept hb2).m, by have := (Array.getElem?_eq_some_iff.1 (HBX.out.kept hb2).m).1; omega⟩
    | 19, _, _ => exact ⟨(HBX.out.kept hb2).s, by have := (Array.getElem?_eq_some_iff.1 (HBX.out.kept hb2).s).1; omega⟩
    | 0, hk, _ => exact absurd hk (by show ¬ (18 ≤ 0); omega)
    | 1, hk, _ => exact absurd hk (by show ¬ (18 ≤ 1); omega)
    | 2, hk, _ => exact absurd hk (by show ¬ (18 ≤ 2); omega)
    | 3, hk, _ => exact absurd hk (by show ¬ (18 ≤ 3); omega)
    | 4, hk, _ => exact absurd hk (by show ¬ (18 ≤ 4); omega)
    | 5, hk, _ => exact absurd hk (by show ¬ (18 ≤ 5); omega)
    | 6, hk, _ => exact absurd hk (by show ¬ (18 ≤ 6); omega)
    | 7, hk, _ => exact absurd hk (by show ¬ (18 ≤ 7); omega)
    | 8, hk, _ => exact absurd hk (by show ¬ (18 ≤ 8); omega)
    | 9, hk, _ => exact absurd hk (by show ¬ (18 ≤ 9); omega)
    | 10, hk, _ => exact absurd hk (by show ¬ (18 ≤ 10); omega)
    | 11, hk, _ => exact absurd hk (by show ¬ (18 ≤ 11); omega)
    | 12, hk, _ => exact absurd hk (by show ¬ (18 ≤ 12); omega)
    | 13, hk, _ => exact absurd hk (by show ¬ (18 ≤ 13); omega)
    | 14, hk, _ => exact absurd hk (by show ¬ (18 ≤ 14); omega)
    | 15, hk, _ => exact absurd hk (by show ¬ (18 ≤ 15); omega)
    | 16, hk, _ => exact absurd hk (by show ¬ (18 ≤ 16); omega)
    | 17, hk, _ => exact absurd hk (by show ¬ (18 ≤ 17); omega)
    | k + 20, _, hk2 => exact absurd hk2 (by show ¬ (k + 20 < 20); omega)
  · rintro a0 ⟨hz, g1, g2, g4, g7⟩
    refine StepsRI.cons ?_ (StepsRI.cons ?_ (StepsRI.cons ?_ (StepsRI.cons ?_ (StepsRI.cons ?_ (StepsRI.cons ?_ (StepsRI.cons ?_ (StepsRI.cons ?_ (StepsRI.cons ?_ (StepsRI.cons ?_ (StepsRI.cons ?_ (StepsRI.cons ?_ (StepsRI.cons ?_ (StepsRI.cons ?_ (StepsRI.cons ?_ (StepsRI.cons ?_ (StepsRI.cons ?_ (StepsRI.cons ?_ (StepsRI.nil))))))))))))))))))
    · intro lQ b W hI hUN hED KQ hKQ
      exact opw_field 32 4 1 rfl _ ((hI.fr.same 4 (by decide)).trans g4) _ (by kernel_rfl) (hKQ.out _ _ (hI.put 0 46 rfl rfl (by rw [hz]; decide) rfl hUN rfl HBB (cs3_stb am nn cm bq oq n c kq ab nb cb at2 sc x h nx V1 w.heap.size (w2.heap.size)) (Below.refl _ _) rfl))
    · intro lQ b W hI hUN hED KQ hKQ
      have f := hI.got 0 (of_decide_eq_true rfl) (edge hED 0 (by kernel_rfl)) rfl
      have hg := (hI.vot 18 (of_decide_eq_true rfl) (of_decide_eq_true rfl) rfl).1
      have hc : W.cell? ⟨w.heap.size, 1, none⟩ = some (.slice (some ⟨bq, oq, none⟩) n c) := (cell_of_row _ _ 1 _ _ (0, 0) hg).trans rfl
      exact opw_load1 30 46 rfl _ f _ (by simp [Instr.loadAt, go_sem, hc]) (hKQ.out _ _ (hI.put 1 47 rfl rfl (by rw [hz]; decide) rfl hUN rfl HBB (cs3_stb am nn cm bq oq n c kq ab nb cb at2 sc x h nx V1 w.heap.size (w2.heap.size)) (Below.refl _ _) rfl))
    · intro lQ b W hI hUN hED KQ hKQ
      exact opw_move 1 rfl (hKQ.out _ _ (hI.put 2 48 rfl rfl (by rw [hz]; decide) rfl hUN rfl HBB (cs3_stb am nn cm bq oq n c kq ab nb cb at2 sc x h nx V1 w.heap.size (w2.heap.size)) (Below.refl _ _) ((hI.fr.same 1 (by decide)).trans g1)))
    · intro lQ b W hI hUN hED KQ hKQ
      have f0 : aT b 47 = .slice (some ⟨bq, oq, none⟩) n c := hI.got 1 (of_decide_eq_true rfl) (edge hED 1 (by kernel_rfl)) rfl
      have f1 : aT b 48 = .int .i64 (kq : Int) := hI.got 2 (of_decide_eq_true rfl) (edge hED 2 (by kernel_rfl)) rfl
      exact opw_indexX 30 47 48 rfl _ _ f0 f1 _ (indexSg bq oq n c kq W HKN) (hKQ.out _ _ (hI.put 3 49 rfl rfl (by rw [hz]; decide) rfl hUN rfl HBB (cs3_stb am nn cm bq oq n c kq ab nb cb at2 sc x h nx V1 w.heap.size (w2.heap.size)) (Below.refl _ _) rfl))
    · intro lQ b W hI hUN hED KQ hKQ
      have f : aT b 49 = .pointer (some ⟨bq, oq + kq * 4, none⟩) := hI.got 3 (of_decide_eq_true rfl) (edge hED 3 (by kernel_rfl)) rfl
      exact opw_field 47 49 2 rfl _ f _ (by kernel_rfl) (hKQ.out _ _ (hI.put 4 50 rfl rfl (by rw [hz]; decide) rfl hUN rfl HBB (cs3_stb am nn cm bq oq n c kq ab nb cb at2 sc x h nx V1 w.heap.size (w2.heap.size)) (Below.refl _ _) rfl))
    · intro lQ b W hI hUN hED KQ hKQ
      have f : aT b 50 = .pointer (some ⟨bq, oq + kq * 4 + 2, none⟩) := hI.got 4 (of_decide_eq_true rfl) (edge hED 4 (by kernel_rfl)) rfl
      have hc : W.cell? ⟨bq, oq + kq * 4 + 2, none⟩ = some (.slice ab nb cb) := (HCELL.out W (keepT hb2 hI.bel)).1
      exact opw_load1 22 50 rfl _ f _ (by simp [Instr.loadAt, go_sem, hc]) (hKQ.out _ _ (hI.put 5 51 rfl rfl (by rw [hz]; decide) rfl hUN rfl HBB (cs3_stb am nn cm bq oq n c kq ab nb cb at2 sc x h nx V1 w.heap.size (w2.heap.size)) (Below.refl _ _) rfl))
    · intro lQ b W hI hUN hED KQ hKQ
      exact opw_move 2 rfl (hKQ.out _ _ (hI.put 6 52 rfl rfl (by rw [hz]; decide) rfl hUN rfl HBB (cs3_stb am nn cm bq oq n c kq ab nb cb at2 sc x h nx V1 w.heap.size (w2.heap.size)) (Below.refl _ _) ((hI.fr.same 2 (by decide)).trans g2)))
    · intro lQ b W hI hUN hED KQ hKQ
      have hg := (hI.vot 19 (of_decide_eq_true rfl) (of_decide_eq_true rfl) rfl).1
      refine wp_load_row 33 _ rfl ((w.heap.size + 1)) ((hI.fr.same 7 (by decide)).trans g7) 33 #[.int .i64 sc, .int .u64 x, .int .i64 h, .int .i64 nx] (0, 0) _ hg Tryz.underlying33 rfl (by kernel_rfl) ?_
      exact hKQ.out _ _ (hI.put 7 53 rfl rfl (by rw [hz]; decide) rfl hUN rfl HBB (cs3_stb am nn cm bq oq n c kq ab nb cb at2 sc x h nx V1 w.heap.size (w2.heap.size)) (Below.refl _ _) rfl)
    · intro lQ b W hI hUN hED KQ hKQ
      have f1 := hI.got 5 (of_decide_eq_true rfl) (edge hED 5 (by kernel_rfl)) rfl
      replace f1 : aT b 51 = .slice ab nb cb := f1
      have f2 := hI.got 6 (of_decide_eq_true rfl) (edge hED 6 (by kernel_rfl)) rfl
      replace f2 : aT b 52 = .int .i64 at2 := f2
      have f3 := hI.got 7 (of_decide_eq_true rfl) (edge hED 7 (by kernel_rfl)) rfl
      replace f3 : aT b 53 = .agg #[.int .i64 sc, .int .u64 x, .int .i64 h, .int .i64 nx] := f3
      refine opw_call 17 #[.const (.int .i64 9), .tmp 51, .tmp 52, .tmp 53] _ _ _ rfl Tryz.func17 (by kernel_rfl) rfl #[.int .i64 9, .slice ab nb cb, .int .i64 at2, .agg #[.int .i64 sc, .int .u64 x, .int .i64 h, .int .i64 nx]] (by simp [ev, evc, f1, f2, f3]) ?_
      refine (HNS.out W (keepT hb2 hI.bel)).mono ?_
      rintro e W2 ⟨a2, c2, rfl, ho, hb⟩
      exact ⟨_, rfl, hKQ.out _ _ (hI.put 8 54 rfl rfl (by rw [hz]; decide) rfl hUN rfl HBB (cs3_stb am nn cm bq oq n c kq ab nb cb at2 sc x h nx V1 w.heap.size (w2.heap.size)) hb ⟨a2, c2, rfl, ho.mono (Nat.le_trans HBB hI.bel.size)⟩)⟩
    · intro lQ b W hI hUN hED KQ hKQ
      have f := hI.got 8 (of_decide_eq_true rfl) (edge hED 8 (by kernel_rfl)) rfl
      exact opw_move 54 rfl (hKQ.out _ _ (hI.put 9 45 rfl rfl (by rw [hz]; decide) rfl hUN rfl HBB (cs3_stb am nn cm bq oq n c kq ab nb cb at2 sc x h nx V1 w.heap.size (w2.heap.size)) (Below.refl _ _) f))
    · intro lQ b W hI hUN hED KQ hKQ
      have f := hI.got 9 (of_decide_eq_true rfl) (edge hED 9 (by kernel_rfl)) rfl
      obtain ⟨a2, c2, f, o_0⟩ := f
      exact opw_extract 45 0 rfl _ _ f rfl (hKQ.out _ _ (hI.put 10 55 rfl rfl (by rw [hz]; decide) rfl hUN rfl HBB (cs3_stb am nn cm bq oq n c kq ab nb cb at2 sc x h nx V1 w.heap.size (w2.heap.size)) (Below.refl _ _) ⟨a2, c2, rfl, o_0⟩))
    · intro lQ b W hI hUN hED KQ hKQ
      have f := hI.got 9 (of_decide_eq_true rfl) (edge hED 9 (by kernel_rfl)) rfl
      obtain ⟨a2, c2, f, o_0⟩ := f
      exact opw_extract 45 1 rfl _ _ f rfl (hKQ.out _ _ (hI.put 11 56 rfl rfl (by rw [hz]; decide) rfl hUN rfl HBB (cs3_stb am nn cm bq oq n c kq ab nb cb at2 sc x h nx V1 w.heap.size (w2.heap.size)) (Below.refl _ _) rfl))
    · intro lQ b W hI hUN hED KQ hKQ
      have f := hI.got 9 (of_decide_eq_true rfl) (edge hED 9 (by kernel_rfl)) rfl
      obtain ⟨a2, c2, f, o_0⟩ := f
      exact opw_extract 45 2 rfl _ _ f rfl (hKQ.out _ _ (hI.put 12 57 rfl rfl (by rw [hz]; decide) rfl hUN rfl HBB (cs3_stb am nn cm bq oq n c kq ab nb cb at2 sc x h nx V1 w.heap.size (w2.heap.size)) (Below.refl _ _) rfl))
    · intro lQ b W hI hUN hED KQ hKQ
      refine opw_value (w' := W.alloc (.cells #[.int .u64 0, .int .i64 0, .slice none 0 0, .slice none 0 0] 47)) (.pointer (some ⟨W.heap.size, 0, none⟩)) (by kernel_rfl) ?_
      exact hKQ.out _ _ (hI.put 13 11 rfl rfl (by rw [hz]; decide) rfl hUN rfl HBB (cs3_stb am nn cm bq oq n c kq ab nb cb at2 sc x h nx V1 w.heap.size (w2.heap.size)) ((Below.refl _ _).alloc (Nat.le_refl _) _) ⟨W.heap.size, rfl, heap_alloc_new W _, Nat.le_trans HBB hI.bel.size⟩)
    · intro lQ b W hI hUN hED KQ hKQ
      refine opw_value (w' := W.alloc (.cells #[.int .i64 0, .int .u64 0, .int .i64 0, .int .i64 0] 33)) (.pointer (some ⟨W.heap.size, 0, none⟩)) (by kernel_rfl) ?_
      exact hKQ.out _ _ (hI.put 14 12 rfl rfl (by rw [hz]; decide) rfl hUN rfl HBB (cs3_stb am nn cm bq oq n c kq ab nb cb at2 sc x h nx V1 w.heap.size (w2.heap.size)) ((Below.refl _ _).alloc (Nat.le_refl _) _) ⟨W.heap.size, rfl, heap_alloc_new W _, Nat.le_trans HBB hI.bel.size⟩)
    · intro lQ b W hI hUN hED KQ hKQ
      obtain ⟨g, fb, hgb, hge⟩ := hI.got1 13 15 (of_decide_eq_true rfl) (edge hED 13 (by kernel_rfl)) hUN rfl
      have f := hI.got 10 (of_decide_eq_true rfl) (edge hED 10 (by kernel_rfl)) rfl
      obtain ⟨a2, c2, f, o_0⟩ := f
      refine wp_store_row 47 _ _ rfl g #[.int .u64 V1.k, .int .i64 V1.at2, .slice a2 V1.sg.length c2, .slice none 0 0] fb f 47 _ hgb (by kernel_rfl) rfl (by simp [Value.oneCell']) ?_
      have ht := setRow_touch W g #[.int .u64 V1.k, .int .i64 V1.at2, .slice a2 V1.sg.length c2, .slice none 0 0]
      exact hKQ.out _ _ (hI.store 15 (fun j hj => by
          rcases List.mem_singleton.1 hj with rfl
          exact edge hED 13 (by kernel_rfl)) (hI.bel.trans (ht.below hge (Nat.le_trans HBB hI.bel.size))) (cs3_st15 am nn cm bq oq n c kq ab nb cb at2 sc x h nx V1 w.heap.size (w2.heap.size) hgb ht hge) ⟨g, a2, c2, fb, (setRow_heap W g _ _ _ _ hgb), hge, ⟨ownsRow_box o_0.row hgb (by decide) ht, o_0.byte⟩⟩)
    · intro lQ b W hI hUN hED KQ hKQ
      obtain ⟨g, fb, hgb, hge⟩ := hI.got1 14 16 (of_decide_eq_true rfl) (edge hED 14 (by kernel_rfl)) hUN rfl
      have f := hI.got 11 (of_decide_eq_true rfl) (edge hED 11 (by kernel_rfl)) rfl
      refine wp_store_row 33 _ _ rfl g #[.int .i64 V1.t.1, .int .u64 V1.t.2.1, .int .i64 V1.t.2.2.1, .int .i64 V1.t.2.2.2] fb f 33 _ hgb (by kernel_rfl) rfl (by simp [Value.oneCell']) ?_
      have ht := setRow_touch W g #[.int .i64 V1.t.1, .int .u64 V1.t.2.1, .int .i64 V1.t.2.2.1, .int .i64 V1.t.2.2.2]
      exact hKQ.out _ _ (hI.store 16 (fun j hj => by
          rcases List.mem_singleton.1 hj with rfl
          exact edge hED 14 (by kernel_rfl)) (hI.bel.trans (ht.below hge (Nat.le_trans HBB hI.bel.size))) (cs3_st16 am nn cm bq oq n c kq ab nb cb at2 sc x h nx V1 w.heap.size (w2.heap.size) hgb ht hge) ⟨g, fb, (setRow_heap W g _ _ _ _ hgb), hge⟩)
    · intro lQ b W hI hUN hED KQ hKQ
      have f := hI.got 12 (of_decide_eq_true rfl) (edge hED 12 (by kernel_rfl)) rfl
      exact opw_assign 57 rfl (hKQ.out _ _ (hI.put 17 13 rfl rfl (by rw [hz]; decide) rfl hUN rfl HBB (cs3_stb am nn cm bq oq n c kq ab nb cb at2 sc x h nx V1 w.heap.size (w2.heap.size)) (Below.refl _ _) f))
  · intro b W hf hb F
    have e13 := F 17 (of_decide_eq_true rfl) rfl
    have e11 := F 15 (of_decide_eq_true rfl) rfl
    have e12 := F 16 (of_decide_eq_true rfl) rfl
    obtain ⟨gq, a2, c2, e11, hgq, hgqe, ho⟩ := e11
    obtain ⟨gt, e12, hgt, hgte⟩ := e12
    replace e13 : aT b 13 = _ := e13
    replace e11 : aT b 11 = _ := e11
    replace e12 : aT b 12 = _ := e12
    rw [hf.eq]
    simp only [puts, Act.put, List.setIfInBounds_toArray, List.set_cons_zero, List.set_cons_succ, e11, e12, e13]
    clear hf F e11 e12 e13
    generalize aT b = AT
    clear b
    have hbW : Below w1.heap.size w1 W := keepT hb2 hb
    have z5 : (V1.cd != 0) = true := by simp [hcd]
    have z6 : ¬ V1.cd = 0 := hcd
    clear x0 x1 y2 y3 hgq hgqe ho hgt hgte
    obtain ⟨z0, z1⟩ := cells2m (HBX.out.kept hbW).rm
    obtain ⟨v0, v1, v2, v3⟩ := cellsX4 (HBX.out.kept hbW).rs
    have zf0 := frozen_of_row _ _ 0 _ _ (HBX.out.kept hbW).rm
    have zf1 := frozen_of_row _ _ 1 _ _ (HBX.out.kept hbW).rm
    obtain ⟨vf0, vf1, vf2, vf3⟩ := frozenX4 (HBX.out.kept hbW).rs
    obtain ⟨wz, hwz, r1, r2, tz⟩ := zeroed (HBX.out.kept hbW)
    have HWZ : Hid (_ = _) := hwz
    clear hwz
    go_wp2
    rw [← HWZ.out]
    try simp only [Exit.inBlock, Exit.then]
    exact bodyPost_ret (results_cs rfl _ (w.heap.size + 1 + 1) (w.heap.size + 1 + 1 + 1) rfl rfl _ rfl _ _ _ r1 r2 rfl rfl) rfl ⟨rfl, (keepT hbb hbW).trans (tz.below (by omega) (keepT hbb hbW).size)⟩

end Go.Proofs.YtpnhhhhmonbajaaGreat

