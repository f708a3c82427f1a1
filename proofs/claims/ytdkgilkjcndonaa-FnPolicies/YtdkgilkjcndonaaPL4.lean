import Derived.Test.YtdkgilkjcndonaaPL3
import Derived.Test.YtdkgilkjcndonaaPL2a
namespace Go.Proofs.Ytdkgilkjcndonaa
open Go.RowKit

/-- A flag that says P, and nothing old is turned. -/
def SaysP (P : Prop) (w : World) (e : Ending) (w' : World) : Prop := ∃ b, e = .returned (.bool b) ∧ Hid (b = true ↔ P) ∧ Below w.heap.size w w'
theorem saysP_t {P : Prop} {w w' : World} (h : P) (hb : Below w.heap.size w w') : SaysP P w (.returned (.bool true)) w' := ⟨true, rfl, ⟨fun _ => h, fun _ => rfl⟩, hb⟩
theorem saysP_f {P : Prop} {w w' : World} (h : ¬ P) (hb : Below w.heap.size w w') : SaysP P w (.returned (.bool false)) w' := ⟨false, rfl, ⟨fun e => (by cases e), fun e => absurd e h⟩, hb⟩

set_option maxRecDepth 10000 in
set_option maxHeartbeats 400000 in
theorem isPolicy_any (x : Int) (w : World) : Calls Try.prog 57 #[.int .i64 x] w fun e w' => e = .returned (.bool (decide (1 ≤ x ∧ x ≤ 1000))) ∧ w' = w := by
  by_cases h : 1 ≤ x ∧ x ≤ 1000
  · rw [decide_eq_true h]
    go_enter Try.func57, Try.ntmps57
    go_wp2_with fail
    refine (inBounds_t x 1 1000 _ h).mono ?_
    rintro e w1 ⟨rfl, rfl⟩
    go_wp2
    go_ret
    exact ⟨rfl, rfl⟩
  · rw [decide_eq_false h]
    go_enter Try.func57, Try.ntmps57
    go_wp2_with fail
    refine (inBounds_f x 1 1000 _ h).mono ?_
    rintro e w1 ⟨rfl, rfl⟩
    go_wp2
    go_ret
    exact ⟨rfl, rfl⟩

set_option maxRecDepth 10000 in
set_option maxHeartbeats 400000 in
theorem isPolicyOrAny_any (x : Int) (w : World) : Calls Try.prog 63 #[.int .i64 x] w fun e w' => e = .returned (.bool (decide (0 ≤ x ∧ x ≤ 1000))) ∧ w' = w := by
  by_cases h : 0 ≤ x ∧ x ≤ 1000
  · rw [decide_eq_true h]
    go_enter Try.func63, Try.ntmps63
    go_wp2_with fail
    refine (inBounds_t x 0 1000 _ h).mono ?_
    rintro e w1 ⟨rfl, rfl⟩
    go_wp2
    go_ret
    exact ⟨rfl, rfl⟩
  · rw [decide_eq_false h]
    go_enter Try.func63, Try.ntmps63
    go_wp2_with fail
    refine (inBounds_f x 0 1000 _ h).mono ?_
    rintro e w1 ⟨rfl, rfl⟩
    go_wp2
    go_ret
    exact ⟨rfl, rfl⟩

set_option maxRecDepth 10000 in
set_option maxHeartbeats 2000000 in
theorem everyPol_any (a : Option Addr) (n c : Nat) (zs : List Int) (w : World) (h : Row64 w a n zs) (hn : n ≤ 9223372036854775807) :
    Calls Try.prog 62 #[.slice a n c, .func (Fn.func 63) #[] #[]] w (SaysP (∀ j, j < zs.length → 0 ≤ zs.getD j 0 ∧ zs.getD j 0 ≤ 1000) w) := by
  have H0 : Hid (Row64 w a n zs) := h
  have HL : Hid (zs.length = n) := h.len
  clear h
  go_enter Try.func62, Try.ntmps62
  go_wp2
  go_loopw [9] (fun i wr => ∃ k : Nat, k ≤ n ∧ i = .int .i64 k ∧ Hid (∀ j, j < k → 0 ≤ zs.getD j 0 ∧ zs.getD j 0 ≤ 1000) ∧ w = wr) (fun i _ => n - (intOf i).toNat)
  case atStart => exact ⟨0, Nat.zero_le _, rfl, fun k hk => absurd hk (Nat.not_lt_zero _), rfl⟩
  case round =>
    obtain ⟨k, hk, rfl, HE, rfl⟩ := hrel
    by_cases hlt : k < n
    · obtain ⟨b, off, rfl, hb, hc⟩ := H0.out.get k hlt
      obtain ⟨z, hz⟩ : ∃ z, z = zs.getD k 0 := ⟨_, rfl⟩
      rw [← hz] at hc
      have HZ : Hid (z = zs.getD k 0) := hz
      have hlti : (k : Int) < (n : Int) := by omega
      clear hz
      go_wp2_with fail
      refine (isPolicyOrAny_any z _).mono ?_
      rintro e w2 ⟨rfl, rfl⟩
      by_cases h0 : 0 ≤ z ∧ z ≤ 1000
      · rw [decide_eq_true h0]
        have HN : Hid (∀ j, j < k + 1 → 0 ≤ zs.getD j 0 ∧ zs.getD j 0 ≤ 1000) := fun j hj => by
          by_cases e : j < k
          · exact HE.out j e
          · obtain rfl : j = k := by omega
            rw [← HZ.out]; exact h0
        clear h0 HE
        go_wp2
        go_roundw
        case rel => exact ⟨k + 1, by omega, by go_num, HN, by trivial⟩
        case measure => simp [intOf]; omega
      · rw [decide_eq_false h0]
        have HN : Hid (¬ (∀ j, j < zs.length → 0 ≤ zs.getD j 0 ∧ zs.getD j 0 ≤ 1000)) := fun e => h0 (by rw [HZ.out]; exact e k (by rw [HL.out]; exact hlt))
        clear h0 HE
        go_wp2
        go_ret
        exact saysP_f HN.out (Below.refl _ _)
    · obtain rfl : k = n := by omega
      go_wp2
      go_ret
      exact saysP_t (fun j hj => HE.out j (by rw [HL.out] at hj; exact hj)) (Below.refl _ _)

set_option maxRecDepth 10000 in
set_option maxHeartbeats 400000 in
theorem limitOk_any (x : Int) (w : World) : Calls Try.prog 76 #[.int .i64 x] w fun e w' => e = .returned (.bool (decide ((-1) ≤ x ∧ x ≤ 10))) ∧ w' = w := by
  by_cases h : (-1) ≤ x ∧ x ≤ 10
  · rw [decide_eq_true h]
    go_enter Try.func76, Try.ntmps76
    go_wp2_with fail
    refine (inBounds_t x (-1) 10 _ h).mono ?_
    rintro e w1 ⟨rfl, rfl⟩
    go_wp2
    go_ret
    exact ⟨rfl, rfl⟩
  · rw [decide_eq_false h]
    go_enter Try.func76, Try.ntmps76
    go_wp2_with fail
    refine (inBounds_f x (-1) 10 _ h).mono ?_
    rintro e w1 ⟨rfl, rfl⟩
    go_wp2
    go_ret
    exact ⟨rfl, rfl⟩

set_option maxRecDepth 10000 in
set_option maxHeartbeats 2000000 in
theorem everyLim_any (a : Option Addr) (n c : Nat) (zs : List Int) (w : World) (h : Row64 w a n zs) (hn : n ≤ 9223372036854775807) :
    Calls Try.prog 62 #[.slice a n c, .func (Fn.func 76) #[] #[]] w (SaysP (∀ j, j < zs.length → (-1) ≤ zs.getD j 0 ∧ zs.getD j 0 ≤ 10) w) := by
  have H0 : Hid (Row64 w a n zs) := h
  have HL : Hid (zs.length = n) := h.len
  clear h
  go_enter Try.func62, Try.ntmps62
  go_wp2
  go_loopw [9] (fun i wr => ∃ k : Nat, k ≤ n ∧ i = .int .i64 k ∧ Hid (∀ j, j < k → (-1) ≤ zs.getD j 0 ∧ zs.getD j 0 ≤ 10) ∧ w = wr) (fun i _ => n - (intOf i).toNat)
  case atStart => exact ⟨0, Nat.zero_le _, rfl, fun k hk => absurd hk (Nat.not_lt_zero _), rfl⟩
  case round =>
    obtain ⟨k, hk, rfl, HE, rfl⟩ := hrel
    by_cases hlt : k < n
    · obtain ⟨b, off, rfl, hb, hc⟩ := H0.out.get k hlt
      obtain ⟨z, hz⟩ : ∃ z, z = zs.getD k 0 := ⟨_, rfl⟩
      rw [← hz] at hc
      have HZ : Hid (z = zs.getD k 0) := hz
      have hlti : (k : Int) < (n : Int) := by omega
      clear hz
      go_wp2_with fail
      refine (limitOk_any z _).mono ?_
      rintro e w2 ⟨rfl, rfl⟩
      by_cases h0 : (-1) ≤ z ∧ z ≤ 10
      · rw [decide_eq_true h0]
        have HN : Hid (∀ j, j < k + 1 → (-1) ≤ zs.getD j 0 ∧ zs.getD j 0 ≤ 10) := fun j hj => by
          by_cases e : j < k
          · exact HE.out j e
          · obtain rfl : j = k := by omega
            rw [← HZ.out]; exact h0
        clear h0 HE
        go_wp2
        go_roundw
        case rel => exact ⟨k + 1, by omega, by go_num, HN, by trivial⟩
        case measure => simp [intOf]; omega
      · rw [decide_eq_false h0]
        have HN : Hid (¬ (∀ j, j < zs.length → (-1) ≤ zs.getD j 0 ∧ zs.getD j 0 ≤ 10)) := fun e => h0 (by rw [HZ.out]; exact e k (by rw [HL.out]; exact hlt))
        clear h0 HE
        go_wp2
        go_ret
        exact saysP_f HN.out (Below.refl _ _)
    · obtain rfl : k = n := by omega
      go_wp2
      go_ret
      exact saysP_t (fun j hj => HE.out j (by rw [HL.out] at hj; exact hj)) (Below.refl _ _)

def polsP (zs : List Int) : Prop := zs.length ≤ 6 ∧ (∀ j, j < zs.length → 0 ≤ zs.getD j 0 ∧ zs.getD j 0 ≤ 1000) ∧ unl zs

set_option maxRecDepth 10000 in
set_option maxHeartbeats 2000000 in
theorem policiesOk_any (a : Option Addr) (n c : Nat) (zs : List Int) (w : World) (h : Row64 w a n zs) (hn : n ≤ c) (hc : c ≤ 9223372036854775807) :
    Calls Try.prog 74 #[.slice a n c] w (SaysP (polsP zs) w) := by
  have H0 : Hid (Row64 w a n zs) := h
  have HL : Hid (zs.length = n) := h.len
  clear h
  by_cases h6 : n ≤ 6
  · have h6' : (n : Int) ≤ 6 := by omega
    go_enter Try.func74, Try.ntmps74
    go_wp2_with fail
    refine (everyPol_any a n c zs _ H0.out (by omega)).mono ?_
    rintro e w1 ⟨b, rfl, HB, hb1⟩
    cases b with
    | false =>
      have HN : Hid (¬ polsP zs) := fun e => absurd (HB.out.2 e.2.1) (by decide)
      clear HB
      go_wp2
      go_ret
      exact saysP_f HN.out hb1
    | true =>
      have HT : Hid (∀ j, j < zs.length → 0 ≤ zs.getD j 0 ∧ zs.getD j 0 ≤ 1000) := HB.out.1 rfl
      clear HB
      go_wp2_with fail
      refine (allUnlike_any a n c zs _ (H0.out.kept hb1) hn hc).mono ?_
      rintro e w2 ⟨rfl, rfl⟩
      have FIN : Hid (decide (unl zs) = true ↔ polsP zs) := ⟨fun e => ⟨by rw [HL.out]; exact h6, HT.out, of_decide_eq_true e⟩, fun e => decide_eq_true e.2.2⟩
      obtain ⟨d, hd⟩ : ∃ d, d = decide (unl zs) := ⟨_, rfl⟩
      rw [← hd] at FIN ⊢
      clear hd
      go_wp2
      go_ret
      exact ⟨_, rfl, FIN, hb1⟩
  · have h6' : ¬ (n : Int) ≤ 6 := by omega
    have HN : Hid (¬ polsP zs) := fun e => h6 (by rw [← HL.out]; exact e.1)
    go_enter Try.func74, Try.ntmps74
    go_wp2
    go_ret
    exact saysP_f HN.out (Below.refl _ _)

def mapP (p : Int × Int) : Prop := (1 ≤ p.1 ∧ p.1 ≤ 1000) ∧ (1 ≤ p.2 ∧ p.2 ≤ 1000)
instance (p : Int × Int) : Decidable (mapP p) := by unfold mapP; infer_instance

set_option maxRecDepth 10000 in
set_option maxHeartbeats 1000000 in
theorem mapOk_any (p : Int × Int) (w : World) : Calls Try.prog 86 #[pmv p] w fun e w' => e = .returned (.bool (decide (mapP p))) ∧ Below w.heap.size w w' := by
  obtain ⟨x, y⟩ := p
  unfold pmv
  have hbl : Below w.heap.size w (w.alloc (.cells #[.int .i64 x, .int .i64 y] 43)) := (Below.refl _ _).alloc (Nat.le_refl _) _
  by_cases h1 : 1 ≤ x ∧ x ≤ 1000
  · have HD : Hid (decide (1 ≤ y ∧ y ≤ 1000) = decide (mapP (x, y))) := by show _ = _; exact decide_eq_decide.2 ⟨fun h => ⟨h1, h⟩, fun h => h.2⟩
    have HD1 : Hid (decide (1 ≤ x ∧ x ≤ 1000) = true) := decide_eq_true h1
    clear h1
    go_enter Try.func86, Try.ntmps86
    go_wp2_with fail
    refine (isPolicy_any x _).mono ?_
    rintro e w1 ⟨rfl, rfl⟩
    rw [HD1.out]
    go_wp2_with fail
    refine (isPolicy_any y _).mono ?_
    rintro e w1 ⟨rfl, rfl⟩
    rw [HD.out]
    obtain ⟨d, hd⟩ : ∃ d, d = decide (mapP (x, y)) := ⟨_, rfl⟩
    rw [← hd]
    have HDD : Hid (d = decide (mapP (x, y))) := hd
    clear hd HD
    go_wp2
    go_ret
    exact ⟨by rw [← HDD.out]; rfl, hbl⟩
  · have HD : Hid (decide (mapP (x, y)) = false) := decide_eq_false (fun h => h1 h.1)
    have HD1 : Hid (decide (1 ≤ x ∧ x ≤ 1000) = false) := decide_eq_false h1
    clear h1
    go_enter Try.func86, Try.ntmps86
    go_wp2_with fail
    refine (isPolicy_any x _).mono ?_
    rintro e w1 ⟨rfl, rfl⟩
    rw [HD1.out]
    go_wp2
    go_ret
    exact ⟨by rw [HD.out]; rfl, hbl⟩

def mapsP (ps : List (Int × Int)) : Prop := ∀ j, j < ps.length → mapP (ps.getD j (0, 0))

set_option maxRecDepth 10000 in
set_option maxHeartbeats 2000000 in
theorem everyMap_any (a : Option Addr) (n c : Nat) (ps : List (Int × Int)) (w : World) (h : Pms w a n ps) :
    Calls Try.prog 85 #[.slice a n c, .func (Fn.func 86) #[] #[]] w (SaysP (mapsP ps) w) := by
  have H0 : Hid (Pms w a n ps) := h
  have HL : Hid (ps.length = n) := h.len
  have hn := h.max
  clear h
  go_enter Try.func85, Try.ntmps85
  go_wp2
  go_loopw [9] (fun i wr => ∃ k : Nat, k ≤ n ∧ i = .int .i64 k ∧ Hid (∀ j, j < k → mapP (ps.getD j (0, 0))) ∧ Below w.heap.size w wr) (fun i _ => n - (intOf i).toNat)
  case atStart => exact ⟨0, Nat.zero_le _, rfl, fun k hk => absurd hk (Nat.not_lt_zero _), Below.refl _ _⟩
  case round =>
    obtain ⟨k, hk, rfl, HE, hbr⟩ := hrel
    have hws := hbr.size
    by_cases hlt : k < n
    · obtain ⟨b, off, rfl, hlb, x0, x1⟩ := (H0.out.kept hbr).get k hlt
      obtain ⟨p, hp⟩ : ∃ p, p = ps.getD k (0, 0) := ⟨_, rfl⟩
      rw [← hp] at x0 x1
      have HP : Hid (p = ps.getD k (0, 0)) := hp
      have hlti : (k : Int) < (n : Int) := by omega
      have hbz : Below wr.heap.size wr (wr.alloc (.cells #[.int .i64 p.1, .int .i64 p.2] 43)) := (Below.refl _ _).alloc (Nat.le_refl _) _
      clear hp
      go_wp2_with fail
      refine (mapOk_any p _).mono ?_
      rintro e w2 ⟨rfl, hb2⟩
      have B2 : Below w.heap.size w w2 := keepP hbr (keepP hbz hb2)
      by_cases h0 : mapP p
      · rw [decide_eq_true h0]
        have HN : Hid (∀ j, j < k + 1 → mapP (ps.getD j (0, 0))) := fun j hj => by
          by_cases e : j < k
          · exact HE.out j e
          · obtain rfl : j = k := by omega
            rw [← HP.out]; exact h0
        clear h0 HE hb2 hbz hbr x0 x1
        go_wp2
        go_roundw
        case rel => exact ⟨k + 1, by omega, by go_num, HN, B2⟩
        case measure => simp [intOf]; omega
      · rw [decide_eq_false h0]
        have HN : Hid (¬ mapsP ps) := fun e => h0 (by rw [HP.out]; exact e k (by rw [HL.out]; exact hlt))
        clear h0 HE hb2 hbz hbr x0 x1
        go_wp2
        go_ret
        exact saysP_f HN.out B2
    · obtain rfl : k = n := by omega
      go_wp2
      go_ret
      exact saysP_t (fun j hj => HE.out j (by rw [HL.out] at hj; exact hj)) hbr

set_option maxRecDepth 10000 in
set_option maxHeartbeats 1000000 in
theorem mapsOk_any (a : Option Addr) (n c : Nat) (ps : List (Int × Int)) (w : World) (h : Pms w a n ps) :
    Calls Try.prog 75 #[.slice a n c] w (SaysP (ps.length ≤ 6 ∧ mapsP ps) w) := by
  have H0 : Hid (Pms w a n ps) := h
  have HL : Hid (ps.length = n) := h.len
  have hn := h.max
  clear h
  by_cases h6 : n ≤ 6
  · have h6' : (n : Int) ≤ 6 := by omega
    go_enter Try.func75, Try.ntmps75
    go_wp2_with fail
    refine (everyMap_any a n c ps _ H0.out).mono ?_
    rintro e w1 ⟨b, rfl, HB, hb1⟩
    have FIN : Hid (b = true ↔ ps.length ≤ 6 ∧ mapsP ps) := ⟨fun e => ⟨by rw [HL.out]; exact h6, HB.out.1 e⟩, fun e => HB.out.2 e.2⟩
    go_wp2
    go_ret
    exact ⟨_, rfl, FIN, hb1⟩
  · have h6' : ¬ (n : Int) ≤ 6 := by omega
    have HN : Hid (¬ (ps.length ≤ 6 ∧ mapsP ps)) := fun e => h6 (by rw [← HL.out]; exact e.1)
    go_enter Try.func75, Try.ntmps75
    go_wp2
    go_ret
    exact saysP_f HN.out (Below.refl _ _)

/-- Three counters as a value. -/
def c3v (u v t : Int) : Value := .agg #[.int .i64 u, .int .i64 v, .int .i64 t]
theorem results_c3 {fn : Func} {t : Tmp} (h : fn.results = #[.cell t 86]) (tmps : Array Value) (g : Nat) (ht : tmps.getD t undef = .pointer (some ⟨g, 0, none⟩)) (w : World) (v0 v1 v2 : Value)
    (hb : w.heap[g]? = some (.cells #[v0, v1, v2] 86 (0, 0))) : (results fn tmps).run Try.prog w = .ok (.agg #[v0, v1, v2]) w := by
  have d0 : w.cell? ⟨g, 0, none⟩ = some v0 := (cell_of_row _ g 0 _ 86 (0, 0) hb).trans rfl
  have d1 : w.cell? ⟨g, 1, none⟩ = some v1 := (cell_of_row _ g 1 _ 86 (0, 0) hb).trans rfl
  have d2 : w.cell? ⟨g, 2, none⟩ = some v2 := (cell_of_row _ g 2 _ 86 (0, 0) hb).trans rfl
  clear hb
  have ht' : tmps[t]?.getD undef = .pointer (some ⟨g, 0, none⟩) := by rw [← ht]; simp
  simp [results, h, go_sem, ht', d0, d1, d2]

set_option maxRecDepth 10000 in
set_option maxHeartbeats 1000000 in
theorem limits_any (a1 : Option Addr) (n1 c1 : Nat) (a2 : Option Addr) (n2 c2 : Nat) (x : PC) (w : World) :
    Calls Try.prog 73 #[pcv a1 n1 c1 a2 n2 c2 x] w fun e w' => e = .returned (c3v x.need x.nomap x.noany) ∧ Below w.heap.size w w' := by
  have b1 : ((w.alloc (.cells #[.slice a1 n1 c1, .slice a2 n2 c2, .bool x.self, .int .i64 x.need, .int .i64 x.nomap, .int .i64 x.noany] 41)).alloc (.cells #[.int .i64 x.need, .int .i64 x.nomap, .int .i64 x.noany] 86)).heap[w.heap.size + 1]? = some (.cells #[.int .i64 x.need, .int .i64 x.nomap, .int .i64 x.noany] 86 (0, 0)) := (two_blocksP w _ _).2
  have HB1 : Hid (_ = _) := b1
  clear b1
  unfold pcv
  go_enter Try.func73, Try.ntmps73
  go_wp2
  try simp only [Exit.inBlock, Exit.then]
  exact bodyPost_ret (results_c3 rfl _ (w.heap.size + 1) rfl _ _ _ _ HB1.out) rfl ⟨rfl, ((Below.refl _ _).alloc (Nat.le_refl _) _).alloc (by simp) _⟩

theorem row64_of_cells {w : World} {g t : Nat} {u v s : Int} (h : w.heap[g]? = some (.cells #[.int .i64 u, .int .i64 v, .int .i64 s] t (0, 0))) : Row64 w (some ⟨g, 0, none⟩) 3 [u, v, s] := by
  have hl := (Array.getElem?_eq_some_iff.1 h).1
  refine ⟨rfl, fun k hk => ⟨g, 0, rfl, hl, ?_⟩⟩
  rw [Nat.zero_add, cell_of_row _ g k _ t (0, 0) h]
  match k, hk with
  | 0, _ => rfl
  | 1, _ => rfl
  | 2, _ => rfl
theorem lims_iff (u v s : Int) : (∀ j, j < [u, v, s].length → (-1) ≤ [u, v, s].getD j 0 ∧ [u, v, s].getD j 0 ≤ 10) ↔ (-1 ≤ u ∧ u ≤ 10) ∧ (-1 ≤ v ∧ v ≤ 10) ∧ (-1 ≤ s ∧ s ≤ 10) := by
  constructor
  · intro h
    exact ⟨h 0 (by simp), h 1 (by simp), h 2 (by simp)⟩
  · rintro ⟨h0, h1, h2⟩ j hj
    match j, hj with
    | 0, _ => exact h0
    | 1, _ => exact h1
    | 2, _ => exact h2
theorem certP_iff (x : PC) : certP x ↔ polsP x.pols ∧ (x.maps.length ≤ 6 ∧ mapsP x.maps) ∧ (-1 ≤ x.need ∧ x.need ≤ 10) ∧ (-1 ≤ x.nomap ∧ x.nomap ≤ 10) ∧ (-1 ≤ x.noany ∧ x.noany ≤ 10) :=
  ⟨fun h => ⟨⟨h.1.1, h.2.2.1, h.2.2.2.1⟩, ⟨h.1.2, h.2.2.2.2⟩, h.2.1⟩, fun h => ⟨⟨h.1.1, h.2.1.1⟩, h.2.2, h.1.2.1, h.1.2.2, h.2.1.2⟩⟩

set_option maxRecDepth 10000 in
set_option maxHeartbeats 2000000 in
theorem polCertOk_any (a1 : Option Addr) (n1 c1 : Nat) (a2 : Option Addr) (n2 c2 : Nat) (x : PC) (w : World) (h : PcAt w a1 n1 c1 a2 n2 x) :
    Calls Try.prog 55 #[pcv a1 n1 c1 a2 n2 c2 x] w (SaysP (certP x) w) := by
  have H0 : Hid (PcAt w a1 n1 c1 a2 n2 x) := h
  clear h
  obtain ⟨W0, hW0⟩ : ∃ W0, W0 = w.alloc (.cells #[.slice a1 n1 c1, .slice a2 n2 c2, .bool x.self, .int .i64 x.need, .int .i64 x.nomap, .int .i64 x.noany] 41) := ⟨_, rfl⟩
  have hb0 : Below w.heap.size w W0 := by rw [hW0]; exact (Below.refl _ _).alloc (Nat.le_refl _) _
  have hh0 : W0.heap[w.heap.size]? = some (.cells #[.slice a1 n1 c1, .slice a2 n2 c2, .bool x.self, .int .i64 x.need, .int .i64 x.nomap, .int .i64 x.noany] 41) := by rw [hW0]; exact heap_alloc_new w _
  have hL : Hid (∀ W, Calls Try.prog 73 #[.agg #[.slice a1 n1 c1, .slice a2 n2 c2, .bool x.self, .int .i64 x.need, .int .i64 x.nomap, .int .i64 x.noany]] W fun e w' => e = .returned (c3v x.need x.nomap x.noany) ∧ Below W.heap.size W w') := fun W => limits_any a1 n1 c1 a2 n2 c2 x W
  unfold pcv
  go_enter Try.func55, Try.ntmps55
  go_wp2_with fail
  rw [← hW0]
  clear hW0
  refine (hL.out _).mono ?_
  rintro e w1 ⟨rfl, hb1⟩
  have hh1 := (hb1.block _ (Array.getElem?_eq_some_iff.1 hh0).1).trans hh0
  have B1 : Below w.heap.size w w1 := keepP hb0 hb1
  unfold c3v
  obtain ⟨w2, hw2⟩ : ∃ w2, w2 = w1.alloc (.cells #[.int .i64 x.need, .int .i64 x.nomap, .int .i64 x.noany] 86) := ⟨_, rfl⟩
  have B2 : Below w.heap.size w w2 := by rw [hw2]; exact B1.alloc B1.size _
  have hs1 := B1.size
  have l1 := (Array.getElem?_eq_some_iff.1 hh1).1
  have hh2 : w2.heap[w.heap.size]? = some (.cells #[.slice a1 n1 c1, .slice a2 n2 c2, .bool x.self, .int .i64 x.need, .int .i64 x.nomap, .int .i64 x.noany] 41) := by rw [hw2, alloc_oldP _ _ _ l1]; exact hh1
  have hc2 : w2.heap[w1.heap.size]? = some (.cells #[.int .i64 x.need, .int .i64 x.nomap, .int .i64 x.noany] 86) := by rw [hw2]; exact heap_alloc_new w1 _
  have e0 : w2.cell? ⟨w.heap.size, 0, none⟩ = some (.slice a1 n1 c1) := (cell_of_row _ _ 0 _ 41 (0, 0) hh2).trans rfl
  have HW2 : Hid (_ = _) := hw2
  have HB : Hid (Below w.heap.size w w2) := B2
  have HH : Hid (_ ∧ _) := ⟨hh2, hc2⟩
  have hs2 : w1.heap.size < w2.heap.size := (Array.getElem?_eq_some_iff.1 hc2).1
  clear hb0 hh0 hb1 hh1 B1 hw2 B2 hh2 hc2 l1 hL
  go_upto_region 2 with fail
  rw [← HW2.out]
  clear HW2
  go_wp2_with fail
  refine (policiesOk_any a1 n1 c1 x.pols _ (H0.out.kept HB.out).pol H0.out.le H0.out.max).mono ?_
  rintro e w3 ⟨b3, rfl, HB3, hb3⟩
  have B3 : Below w.heap.size w w3 := keepP HB.out hb3
  cases b3 with
  | false =>
    have HN : Hid (¬ certP x) := fun e => absurd (HB3.out.2 ((certP_iff x).1 e).1) (by decide)
    clear HB3 hb3 e0
    go_wp2
    go_ret
    exact saysP_f HN.out B3
  | true =>
    have HP3 : Hid (polsP x.pols) := HB3.out.1 rfl
    have y0 := (hb3.block _ (by omega)).trans HH.out.1
    have y1 := (hb3.block _ hs2).trans HH.out.2
    have e1 : w3.cell? ⟨w.heap.size, 1, none⟩ = some (.slice a2 n2 c2) := (cell_of_row _ _ 1 _ 41 (0, 0) y0).trans rfl
    have HY : Hid (_ = _) := y1
    have hs3 : w1.heap.size < w3.heap.size := (Array.getElem?_eq_some_iff.1 y1).1
    have HBB3 : Hid (Below w.heap.size w w3) := B3
    clear HB3 hb3 e0 y0 y1 HH HB B3 hs2
    go_wp2_with fail
    refine (mapsOk_any a2 n2 c2 x.maps _ (H0.out.kept HBB3.out).mp).mono ?_
    rintro e w4 ⟨b4, rfl, HB4, hb4⟩
    have B4 : Below w.heap.size w w4 := keepP HBB3.out hb4
    cases b4 with
    | false =>
      have HN : Hid (¬ certP x) := fun e => absurd (HB4.out.2 ((certP_iff x).1 e).2.1) (by decide)
      clear HB4 hb4 e1
      go_wp2
      go_ret
      exact saysP_f HN.out B4
    | true =>
      have HP4 : Hid (x.maps.length ≤ 6 ∧ mapsP x.maps) := HB4.out.1 rfl
      have HR : Hid (Row64 w4 (some ⟨w1.heap.size, 0, none⟩) 3 [x.need, x.nomap, x.noany]) := row64_of_cells ((hb4.block _ hs3).trans HY.out)
      have HBB4 : Hid (Below w.heap.size w w4) := B4
      have hs4 : w1.heap.size < w4.heap.size := Nat.lt_of_lt_of_le hs3 hb4.size
      clear HB4 hb4 e1 HY B4 hs3
      go_wp2_with fail
      refine (everyLim_any (some ⟨w1.heap.size, 0, none⟩) 3 3 [x.need, x.nomap, x.noany] _ HR.out (by decide)).mono ?_
      rintro e w5 ⟨b5, rfl, HB5, hb5⟩
      have FIN : Hid (b5 = true ↔ certP x) := ⟨fun e => (certP_iff x).2 ⟨HP3.out, HP4.out, (lims_iff _ _ _).1 (HB5.out.1 e)⟩, fun e => HB5.out.2 ((lims_iff _ _ _).2 ((certP_iff x).1 e).2.2)⟩
      have B5 : Below w.heap.size w w5 := keepP HBB4.out hb5
      clear HB5 hb5
      go_wp2
      go_ret
      exact ⟨_, rfl, FIN, B5⟩

set_option maxRecDepth 10000 in
set_option maxHeartbeats 2000000 in
theorem everyCert_any (a : Option Addr) (n c : Nat) (xs : List PC) (w : World) (h : Pcs w a n xs) :
    Calls Try.prog 54 #[.slice a n c, .func (Fn.func 55) #[] #[]] w (SaysP (∀ j, j < xs.length → certP (xs.getD j default)) w) := by
  have H0 : Hid (Pcs w a n xs) := h
  have HL : Hid (xs.length = n) := h.len
  have hn := h.max
  clear h
  go_enter Try.func54, Try.ntmps54
  go_wp2
  go_loopw [9] (fun i wr => ∃ k : Nat, k ≤ n ∧ i = .int .i64 k ∧ Hid (∀ j, j < k → certP (xs.getD j default)) ∧ Below w.heap.size w wr) (fun i _ => n - (intOf i).toNat)
  case atStart => exact ⟨0, Nat.zero_le _, rfl, fun k hk => absurd hk (Nat.not_lt_zero _), Below.refl _ _⟩
  case round =>
    obtain ⟨k, hk, rfl, HE, hbr⟩ := hrel
    have hws := hbr.size
    by_cases hlt : k < n
    · obtain ⟨b, off, a1, n1, d1, a2, n2, d2, rfl, hlb, hc, hp⟩ := (H0.out.kept hbr).get k hlt
      obtain ⟨y, hy⟩ : ∃ y, y = xs.getD k default := ⟨_, rfl⟩
      rw [← hy] at hc hp
      have HY : Hid (y = xs.getD k default) := hy
      obtain ⟨c0, c1, c2, c3, c4, c5⟩ := hc
      have hlti : (k : Int) < (n : Int) := by omega
      have hbz : Below wr.heap.size wr (wr.alloc (.cells #[.slice a1 n1 d1, .slice a2 n2 d2, .bool y.self, .int .i64 y.need, .int .i64 y.nomap, .int .i64 y.noany] 41)) := (Below.refl _ _).alloc (Nat.le_refl _) _
      have HP : Hid (PcAt wr a1 n1 d1 a2 n2 y) := hp
      clear hy hp
      go_wp2_with fail
      refine (polCertOk_any a1 n1 d1 a2 n2 d2 y _ (HP.out.kept hbz)).mono ?_
      rintro e w2 ⟨b2, rfl, HB2, hb2⟩
      have B2 : Below w.heap.size w w2 := keepP hbr (keepP hbz hb2)
      cases b2 with
      | true =>
        have HN : Hid (∀ j, j < k + 1 → certP (xs.getD j default)) := fun j hj => by
          by_cases e : j < k
          · exact HE.out j e
          · obtain rfl : j = k := by omega
            rw [← HY.out]; exact HB2.out.1 rfl
        clear HE hb2 hbz hbr c0 c1 c2 c3 c4 c5 HB2
        go_wp2
        go_roundw
        case rel => exact ⟨k + 1, by omega, by go_num, HN, B2⟩
        case measure => simp [intOf]; omega
      | false =>
        have HN : Hid (¬ ∀ j, j < xs.length → certP (xs.getD j default)) := fun e => absurd (HB2.out.2 (by rw [HY.out]; exact e k (by rw [HL.out]; exact hlt))) (by decide)
        clear HE hb2 hbz hbr c0 c1 c2 c3 c4 c5 HB2
        go_wp2
        go_ret
        exact saysP_f HN.out B2
    · obtain rfl : k = n := by omega
      go_wp2
      go_ret
      exact saysP_t (fun j hj => HE.out j (by rw [HL.out] at hj; exact hj)) hbr

set_option maxRecDepth 10000 in
set_option maxHeartbeats 2000000 in
theorem polPathOk_any (a : Option Addr) (n c : Nat) (xs : List PC) (w : World) (h : Pcs w a n xs) :
    Calls Try.prog 32 #[.slice a n c] w (SaysP (pathP xs) w) := by
  have H0 : Hid (Pcs w a n xs) := h
  have HL : Hid (xs.length = n) := h.len
  have hn := h.max
  clear h
  by_cases h8 : 1 ≤ (n : Int) ∧ (n : Int) ≤ 8
  · go_enter Try.func32, Try.ntmps32
    go_wp2_with fail
    refine (inBounds_t (n : Int) 1 8 _ h8).mono ?_
    rintro e w1 ⟨rfl, rfl⟩
    go_wp2_with fail
    refine (everyCert_any a n c xs _ H0.out).mono ?_
    rintro e w2 ⟨b2, rfl, HB2, hb2⟩
    have FIN : Hid (b2 = true ↔ pathP xs) := ⟨fun e => ⟨by rw [HL.out]; omega, HB2.out.1 e⟩, fun e => HB2.out.2 e.2⟩
    clear HB2
    go_wp2
    go_ret
    exact ⟨_, rfl, FIN, hb2⟩
  · have HN : Hid (¬ pathP xs) := fun e => h8 (by have := e.1; rw [HL.out] at this; omega)
    go_enter Try.func32, Try.ntmps32
    go_wp2_with fail
    refine (inBounds_f (n : Int) 1 8 _ h8).mono ?_
    rintro e w1 ⟨rfl, rfl⟩
    go_wp2
    go_ret
    exact saysP_f HN.out (Below.refl _ _)

end Go.Proofs.Ytdkgilkjcndonaa
