import Derived.Test.YtdkgilkjcndonaaPL1
import Derived.Handy
import Derived.Deep.DeepCutAuto
namespace Go.Proofs.Ytdkgilkjcndonaa
open Go.RowKit

def flat (ps : List (Int × Int)) : List Value := ps.flatMap fun p => [Value.int .i64 p.1, .int .i64 p.2]
theorem flat_nil : flat [] = [] := rfl
theorem flat_cons (p : Int × Int) (r : List (Int × Int)) : flat (p :: r) = Value.int .i64 p.1 :: .int .i64 p.2 :: flat r := rfl
theorem flat_append (a b : List (Int × Int)) : flat (a ++ b) = flat a ++ flat b := by simp [flat, List.flatMap_append]
theorem flat_len (ps : List (Int × Int)) : (flat ps).length = ps.length * 2 := by
  induction ps with
  | nil => rfl
  | cons p r ih => rw [flat_cons]; simp [ih]; omega
theorem flat_get (ps : List (Int × Int)) : ∀ k, k < ps.length → (flat ps)[k * 2]? = some (.int .i64 (ps.getD k (0, 0)).1) ∧ (flat ps)[k * 2 + 1]? = some (.int .i64 (ps.getD k (0, 0)).2) := by
  induction ps with
  | nil => intro k h; simp at h
  | cons p r ih =>
    intro k h
    cases k with
    | zero => simp [flat_cons]
    | succ k =>
      have := ih k (by simpa using h)
      rw [flat_cons, show (k + 1) * 2 = k * 2 + 1 + 1 by omega]
      simpa using this
theorem flat_set (ps : List (Int × Int)) : ∀ k (u : Int × Int), k < ps.length → ((flat ps).set (k * 2) (.int .i64 u.1)).set (k * 2 + 1) (.int .i64 u.2) = flat (ps.set k u) := by
  induction ps with
  | nil => intro k u h; simp at h
  | cons p r ih =>
    intro k u h
    cases k with
    | zero => simp [flat_cons]
    | succ k =>
      have := ih k u (by simpa using h)
      rw [flat_cons, show (k + 1) * 2 = k * 2 + 1 + 1 by omega]
      simp only [List.set_cons_succ, flat_cons]
      rw [this]

def Pre2 (vs : List Value) (ps : List (Int × Int)) (k : Nat) : Prop := ∀ j, j < k → vs[j * 2]? = some (.int .i64 (ps.getD j (0, 0)).1) ∧ vs[j * 2 + 1]? = some (.int .i64 (ps.getD j (0, 0)).2)
theorem Pre2.set {vs : List Value} {ps : List (Int × Int)} {k : Nat} (h : Pre2 vs ps k) (hk : k * 2 + 1 < vs.length) : Pre2 ((vs.set (k * 2) (.int .i64 (ps.getD k (0, 0)).1)).set (k * 2 + 1) (.int .i64 (ps.getD k (0, 0)).2)) ps (k + 1) := by
  intro j hj
  by_cases e : j = k
  · subst e
    refine ⟨?_, ?_⟩
    · rw [List.getElem?_set_ne (by omega), List.getElem?_set_self (by omega)]
    · rw [List.getElem?_set_self (by simp; omega)]
  · have h1 := h j (by omega)
    refine ⟨?_, ?_⟩
    · rw [List.getElem?_set_ne (by omega), List.getElem?_set_ne (by omega)]; exact h1.1
    · rw [List.getElem?_set_ne (by omega), List.getElem?_set_ne (by omega)]; exact h1.2
theorem Pre2.all {vs : List Value} {ps : List (Int × Int)} {n : Nat} (h : Pre2 vs ps n) (hv : vs.length = n * 2) (hp : ps.length = n) : vs = flat ps := by
  apply List.ext_getElem?
  intro i
  by_cases hi : i < n * 2
  · have h1 := h (i / 2) (by omega)
    have h2 := flat_get ps (i / 2) (by omega)
    rcases Nat.mod_two_eq_zero_or_one i with e | e
    · have ei : i / 2 * 2 = i := by omega
      rw [ei] at h1 h2
      exact h1.1.trans h2.1.symm
    · have ei : i / 2 * 2 + 1 = i := by omega
      rw [ei] at h1 h2
      exact h1.2.trans h2.2.symm
  · rw [List.getElem?_eq_none (by omega), List.getElem?_eq_none (by rw [flat_len]; omega)]

/-- Maps of our own, between lo and hi. -/
structure OwnPm (lo hi : Nat) (w : World) (a : Option Addr) (n cap : Nat) (ps : List (Int × Int)) : Prop where
  row : w.ownsRow lo 43 2 (.slice a n cap) n (flat ps)
  max : n ≤ 9223372036854775807
  lt : ∀ x, a = some x → x.block < hi
theorem OwnPm.len {lo hi : Nat} {w : World} {a : Option Addr} {n cap : Nat} {ps : List (Int × Int)} (h : OwnPm lo hi w a n cap ps) : ps.length = n := by
  have := h.row.1
  rw [flat_len] at this
  omega
theorem OwnPm.toPms {lo hi : Nat} {w : World} {a : Option Addr} {n cap : Nat} {ps : List (Int × Int)} (h : OwnPm lo hi w a n cap ps) : Pms w a n ps := by
  refine ⟨h.len, h.max, fun k hk => ?_⟩
  have hf := flat_get ps k (by rw [h.len]; exact hk)
  rcases h.row.2 with ⟨_, h0⟩ | ⟨g, cap', cur, hv, hb, hg, _⟩
  · omega
  · simp only [Value.slice.injEq] at hv
    obtain ⟨rfl, _, rfl⟩ := hv
    exact ⟨g, 0, rfl, (Array.getElem?_eq_some_iff.1 hg).1, by rw [Nat.zero_add, h.row.cellAt _ (by omega)]; exact hf.1, by rw [Nat.zero_add, h.row.cellAt _ (by omega)]; exact hf.2⟩
theorem OwnPm.kept {lo hi : Nat} {w w' : World} {a : Option Addr} {n cap : Nat} {ps : List (Int × Int)} (h : OwnPm lo hi w a n cap ps) (hb : Below w.heap.size w w') : OwnPm lo hi w' a n cap ps := ⟨ownsRow_below h.row hb, h.max, h.lt⟩
/-- What hangs on the blocks from B on alone. -/
def StabP (B : Nat) (R : World → Prop) : Prop := ∀ W W' : World, (∀ l, B ≤ l → l < W.heap.size → W'.heap[l]? = W.heap[l]?) → R W → R W'
theorem stab_row {B lo e s n : Nat} {v : Value} {xs : List Value} (h : B ≤ lo) : StabP B (fun W => W.ownsRow lo e s v n xs) := by
  intro W W' hb hr
  refine ⟨hr.1, ?_⟩
  rcases hr.2 with hn' | ⟨g, cap', cur, hv, hbb, hgg, rest⟩
  · exact .inl hn'
  · exact .inr ⟨g, cap', cur, hv, hbb, (hb g (by omega) (Array.getElem?_eq_some_iff.1 hgg).1).trans hgg, rest⟩
theorem stab_64 {B lo hi n c : Nat} {a : Option Addr} {zs : List Int} (h : B ≤ lo) : StabP B (fun W => Own64 lo hi W a n c zs) := fun W W' hb hr => ⟨stab_row h W W' hb hr.row, hr.lt⟩
theorem stab_pm {B lo hi n c : Nat} {a : Option Addr} {ps : List (Int × Int)} (h : B ≤ lo) : StabP B (fun W => OwnPm lo hi W a n c ps) := fun W W' hb hr => ⟨stab_row h W W' hb hr.row, hr.max, hr.lt⟩
theorem StabP.and {B : Nat} {R S : World → Prop} (h : StabP B R) (k : StabP B S) : StabP B (fun W => R W ∧ S W) := fun W W' hb hr => ⟨h W W' hb hr.1, k W W' hb hr.2⟩
theorem Own64.monoP {lo hi lo' hi' : Nat} {w : World} {a : Option Addr} {n cap : Nat} {zs : List Int} (h : Own64 lo hi w a n cap zs) (h1 : lo' ≤ lo) (h2 : hi ≤ hi') : Own64 lo' hi' w a n cap zs := by
  refine ⟨⟨h.row.1, ?_⟩, fun x hx => Nat.lt_of_lt_of_le (h.lt x hx) h2⟩
  rcases h.row.2 with hv | ⟨g, cap, cur, hv, hbb, rest⟩
  · exact .inl hv
  · exact .inr ⟨g, cap, cur, hv, by omega, rest⟩
theorem OwnPm.monoP {lo hi lo' hi' : Nat} {w : World} {a : Option Addr} {n cap : Nat} {ps : List (Int × Int)} (h : OwnPm lo hi w a n cap ps) (h1 : lo' ≤ lo) (h2 : hi ≤ hi') : OwnPm lo' hi' w a n cap ps := by
  refine ⟨⟨h.row.1, ?_⟩, h.max, fun x hx => Nat.lt_of_lt_of_le (h.lt x hx) h2⟩
  rcases h.row.2 with hv | ⟨g, cap, cur, hv, hbb, rest⟩
  · exact .inl hv
  · exact .inr ⟨g, cap, cur, hv, by omega, rest⟩

theorem Try.infoPolMap : (Try.prog.info? 43).map (fun i => (i.zero, i.size, i.bytes)) = some (some (.agg #[.int .i64 0, .int .i64 0]), 2, 16) := by kernel_rfl
theorem Try.infoPolCert : (Try.prog.info? 41).map (fun i => (i.zero, i.size, i.bytes)) = some (some (.agg #[.slice none 0 0, .slice none 0 0, .bool false, .int .i64 0, .int .i64 0, .int .i64 0]), 6, 80) := by kernel_rfl
theorem results_pm {fn : Func} {t : Tmp} (h : fn.results = #[.cell t 43]) (tmps : Array Value) (g : Nat) (ht : tmps.getD t undef = .pointer (some ⟨g, 0, none⟩)) (w : World) (p : Int × Int)
    (hb : w.heap[g]? = some (.cells #[.int .i64 p.1, .int .i64 p.2] 43 (0, 0))) : (results fn tmps).run Try.prog w = .ok (pmv p) w := by
  have d0 : w.cell? ⟨g, 0, none⟩ = some (.int .i64 p.1) := (cell_of_row _ g 0 _ 43 (0, 0) hb).trans rfl
  have d1 : w.cell? ⟨g, 1, none⟩ = some (.int .i64 p.2) := (cell_of_row _ g 1 _ 43 (0, 0) hb).trans rfl
  clear hb
  have ht' : tmps[t]?.getD undef = .pointer (some ⟨g, 0, none⟩) := by rw [← ht]; simp
  simp [results, h, go_sem, ht', d0, d1, pmv]
theorem alloc_oldP (w : World) (o : Obj) (g : Nat) (hg : g < w.heap.size) : (w.alloc o).heap[g]? = w.heap[g]? := ((Below.refl w.heap.size w).alloc (Nat.le_refl _) o).block g hg

set_option maxRecDepth 10000 in
set_option maxHeartbeats 1000000 in
theorem toPolMap_any (p : Int × Int) (w : World) :
    Calls Try.prog 82 #[pmv p] w fun e w' => e = .returned (pmv p) ∧ Below w.heap.size w w' := by
  obtain ⟨a, b⟩ := p
  have b1 : ((((w.alloc (.cells #[.int .i64 a, .int .i64 b] 111)).alloc (.cells #[.int .i64 a, .int .i64 b] 43)).alloc (.cells #[.int .i64 a, .int .i64 b] 43))).heap[w.heap.size + 1]? = some (.cells #[.int .i64 a, .int .i64 b] 43) := by
    have s1 : (w.alloc (.cells #[.int .i64 a, .int .i64 b] 111)).heap.size = w.heap.size + 1 := by simp
    exact (alloc_oldP _ _ _ (by simp)).trans (by rw [← s1]; exact heap_alloc_new _ _)
  have HB1 : Hid (_ = _) := b1
  clear b1
  unfold pmv
  go_enter Try.func82, Try.ntmps82
  go_wp2
  try simp only [Exit.inBlock, Exit.then]
  exact bodyPost_ret (results_pm (p := (a, b)) rfl _ (w.heap.size + 1) rfl _ HB1.out) rfl ⟨rfl, (((Below.refl _ _).alloc (Nat.le_refl _) _).alloc (by simp) _).alloc (by simp; omega) _⟩

set_option maxRecDepth 10000 in
set_option maxHeartbeats 2000000 in
theorem toPolMapS_any (a : Option Addr) (n c : Nat) (ps : List (Int × Int)) (w : World) (h : Pms w a n ps) (hn : n ≤ 1048576) :
    Calls Try.prog 71 #[.slice a n c] w fun e w' => ∃ ar, e = .returned (.slice ar n n) ∧ OwnPm w.heap.size w'.heap.size w' ar n n ps ∧ Below w.heap.size w w' := by
  obtain ⟨i0, hi, hz0, hz1, hz2⟩ := info_parts Try.infoPolMap
  have H0 : Hid (Pms w a n ps) := h
  have HL : Hid (ps.length = n) := h.len
  clear h
  go_enter Try.func71, Try.ntmps71
  go_wp2_with (first | (at_make; refine wpList_make_full _ rfl _ _ 39 rfl w.heap.size 43 i0 _ 2 Try.underlying39 hi hz0 hz1 _ _ _ _ n rfl rfl rfl rfl (by rw [hz2]; omega) (by unfold maxLen; omega) (by exact Nat.le_refl _) ?_; intro w2 hown hgrow))
  have hbl : Below w.heap.size w w2 := (Below.refl _ _).grown hgrow (Nat.le_refl _) (by simp)
  clear hgrow hi hz0 hz1 hz2
  go_loopw [4] (fun i wr => ∃ k : Nat, k ≤ n ∧ i = .int .i64 k ∧ (∃ vs, wr.ownsRow w.heap.size 43 2 (.slice (some ⟨w.heap.size, 0, none⟩) n n) n vs ∧ Pre2 vs ps k) ∧ Below w.heap.size w wr) (fun i _ => n - (intOf i).toNat)
  case atStart => exact ⟨0, Nat.zero_le _, rfl, ⟨_, hown, fun j hj => absurd hj (Nat.not_lt_zero _)⟩, hbl⟩
  case round =>
    obtain ⟨k, hk, rfl, ⟨vs, hor, hpre⟩, hbr⟩ := hrel
    by_cases hkn : k < n
    · obtain ⟨b, off, rfl, hlb, x0, x1⟩ := (H0.out.kept hbr).get k hkn
      obtain ⟨p, hp⟩ : ∃ p, p = ps.getD k (0, 0) := ⟨_, rfl⟩
      rw [← hp] at x0 x1
      have HP : Hid (ps.getD k (0, 0) = p) := hp.symm
      have hkni : (k : Int) < (n : Int) := by omega
      have HPRE : Hid (Pre2 vs ps k) := hpre
      have HOR : Hid (_) := hor
      have hws := hbr.size
      clear hp hpre hor hown hbl
      go_wp2_with fail
      refine (toPolMap_any p _).mono ?_
      rintro e w3 ⟨rfl, hb3⟩
      have hor3 := ownsRow_below HOR.out hb3
      have hvl : vs.length = n * 2 := hor3.1
      have f0 : w3.frozen? ⟨w.heap.size, k * 2, none⟩ = false := hor3.frozenAt _
      have f1 : w3.frozen? ⟨w.heap.size, k * 2 + 1, none⟩ = false := hor3.frozenAt _
      obtain ⟨y0, hy0⟩ : ∃ y, w3.cell? ⟨w.heap.size, k * 2, none⟩ = some y := ⟨_, (hor3.cellAt _ (by omega)).trans (List.getElem?_eq_getElem (by omega))⟩
      obtain ⟨y1, hy1⟩ : ∃ y, w3.cell? ⟨w.heap.size, k * 2 + 1, none⟩ = some y := ⟨_, (hor3.cellAt _ (by omega)).trans (List.getElem?_eq_getElem (by omega))⟩
      have hP := HPRE.out.set (by omega)
      rw [HP.out] at hP
      have hO := ((hor3.stored (k * 2) (.int .i64 p.1)).1.stored (k * 2 + 1) (.int .i64 p.2)).1
      have hB : Below w.heap.size w ((w3.setCell ⟨w.heap.size, k * 2, none⟩ (.int .i64 p.1)).setCell ⟨w.heap.size, k * 2 + 1, none⟩ (.int .i64 p.2)) := ((keepP hbr hb3).setCell (Nat.le_refl _) _).setCell (Nat.le_refl _) _
      have FIN : Hid (_ ∧ _ ∧ _) := ⟨hO, hP, hB⟩
      clear hP hO hB hor3 hb3 hbr HPRE HOR
      rw [pmv]
      go_wp2
      go_roundw
      case rel => exact ⟨k + 1, by omega, by go_num, ⟨_, FIN.out.1, FIN.out.2.1⟩, FIN.out.2.2⟩
      case measure => simp [intOf]; omega
    · obtain rfl : k = n := by omega
      have hvs := hpre.all hor.1 HL.out
      rw [hvs] at hor
      have FIN : Hid (OwnPm w.heap.size wr.heap.size wr (some ⟨w.heap.size, 0, none⟩) k k ps ∧ _) := ⟨⟨hor, by omega, fun x hx => by cases hx; exact (hor.lt _ rfl).2⟩, hbr⟩
      clear hor hpre hbr hvs hown hbl
      go_wp2
      go_ret
      exact ⟨_, rfl, FIN.out.1, FIN.out.2⟩

theorem results_pc {fn : Func} {t : Tmp} (h : fn.results = #[.cell t 41]) (tmps : Array Value) (g : Nat) (ht : tmps.getD t undef = .pointer (some ⟨g, 0, none⟩)) (w : World) (v0 v1 v2 v3 v4 v5 : Value)
    (hb : w.heap[g]? = some (.cells #[v0, v1, v2, v3, v4, v5] 41 (0, 0))) : (results fn tmps).run Try.prog w = .ok (.agg #[v0, v1, v2, v3, v4, v5]) w := by
  have d0 : w.cell? ⟨g, 0, none⟩ = some v0 := (cell_of_row _ g 0 _ 41 (0, 0) hb).trans rfl
  have d1 : w.cell? ⟨g, 1, none⟩ = some v1 := (cell_of_row _ g 1 _ 41 (0, 0) hb).trans rfl
  have d2 : w.cell? ⟨g, 2, none⟩ = some v2 := (cell_of_row _ g 2 _ 41 (0, 0) hb).trans rfl
  have d3 : w.cell? ⟨g, 3, none⟩ = some v3 := (cell_of_row _ g 3 _ 41 (0, 0) hb).trans rfl
  have d4 : w.cell? ⟨g, 4, none⟩ = some v4 := (cell_of_row _ g 4 _ 41 (0, 0) hb).trans rfl
  have d5 : w.cell? ⟨g, 5, none⟩ = some v5 := (cell_of_row _ g 5 _ 41 (0, 0) hb).trans rfl
  clear hb
  have ht' : tmps[t]?.getD undef = .pointer (some ⟨g, 0, none⟩) := by rw [← ht]; simp
  simp [results, h, go_sem, ht', d0, d1, d2, d3, d4, d5]
/-- Six cells of the row g are written, from o on. -/
def put6 (w : World) (g o : Nat) (v0 v1 v2 v3 v4 v5 : Value) : World := (((((w.setCell ⟨g, o, none⟩ v0).setCell ⟨g, o + 1, none⟩ v1).setCell ⟨g, o + 2, none⟩ v2).setCell ⟨g, o + 3, none⟩ v3).setCell ⟨g, o + 4, none⟩ v4).setCell ⟨g, o + 5, none⟩ v5
theorem put6_other (w : World) (g o l : Nat) (h : l ≠ g) (v0 v1 v2 v3 v4 v5 : Value) : (put6 w g o v0 v1 v2 v3 v4 v5).heap[l]? = w.heap[l]? := by
  have s : ∀ (W : World) (j : Nat) (u : Value), (W.setCell ⟨g, j, none⟩ u).heap[l]? = W.heap[l]? := fun W j u => Below.heap_setCell _ _ _ _ (by show l ≠ g; exact h)
  exact (s _ _ _).trans ((s _ _ _).trans ((s _ _ _).trans ((s _ _ _).trans ((s _ _ _).trans (s _ _ _)))))
theorem put6_size (w : World) (g o : Nat) (v0 v1 v2 v3 v4 v5 : Value) : (put6 w g o v0 v1 v2 v3 v4 v5).heap.size = w.heap.size := by simp [put6]
theorem set_frame (w : World) (a : Addr) (u : Value) : (w.setCell a u).os = w.os ∧ (w.setCell a u).tape = w.tape ∧ (w.setCell a u).output = w.output := ⟨rfl, rfl, rfl⟩
theorem frame_trans {a b c : World} (h : b.os = a.os ∧ b.tape = a.tape ∧ b.output = a.output) (k : c.os = b.os ∧ c.tape = b.tape ∧ c.output = b.output) : c.os = a.os ∧ c.tape = a.tape ∧ c.output = a.output := ⟨k.1.trans h.1, k.2.1.trans h.2.1, k.2.2.trans h.2.2⟩
theorem put6_frame (w : World) (g o : Nat) (v0 v1 v2 v3 v4 v5 : Value) : (put6 w g o v0 v1 v2 v3 v4 v5).os = w.os ∧ (put6 w g o v0 v1 v2 v3 v4 v5).tape = w.tape ∧ (put6 w g o v0 v1 v2 v3 v4 v5).output = w.output :=
  frame_trans (frame_trans (frame_trans (frame_trans (frame_trans (set_frame _ _ _) (set_frame _ _ _)) (set_frame _ _ _)) (set_frame _ _ _)) (set_frame _ _ _)) (set_frame _ _ _)
theorem put6_row {w : World} {g t : Nat} {c0 c1 c2 c3 c4 c5 : Value} (h : w.heap[g]? = some (.cells #[c0, c1, c2, c3, c4, c5] t (0, 0))) (v0 v1 v2 v3 v4 v5 : Value) : (put6 w g 0 v0 v1 v2 v3 v4 v5).heap[g]? = some (.cells #[v0, v1, v2, v3, v4, v5] t (0, 0)) := by
  have q1 := heap_setCell_same w g 0 _ t v0 h
  have q2 := heap_setCell_same _ g 1 _ t v1 q1
  have q3 := heap_setCell_same _ g 2 _ t v2 q2
  have q4 := heap_setCell_same _ g 3 _ t v3 q3
  have q5 := heap_setCell_same _ g 4 _ t v4 q4
  exact heap_setCell_same _ g 5 _ t v5 q5

/-- A certificate as it is copied: its argument, its answer's box, its own box, and what was made besides. -/
structure TP (w W : World) (a1 : Option Addr) (n1 c1 : Nat) (a2 : Option Addr) (n2 c2 : Nat) (x : PC) (R : World → Prop) (v0 v1 v2 v3 v4 v5 : Value) : Prop where
  b0 : W.heap[w.heap.size]? = some (.cells #[.slice a1 n1 c1, .slice a2 n2 c2, .bool x.self, .int .i64 x.need, .int .i64 x.nomap, .int .i64 x.noany] 75 (0, 0))
  b1 : W.heap[w.heap.size + 1]? = some (.cells #[.slice none 0 0, .slice none 0 0, .bool false, .int .i64 0, .int .i64 0, .int .i64 0] 41 (0, 0))
  b2 : W.heap[w.heap.size + 1 + 1]? = some (.cells #[v0, v1, v2, v3, v4, v5] 41 (0, 0))
  st : R W
  stab : StabP (w.heap.size + 3) R
  below : Below w.heap.size w W
  lt : w.heap.size + 3 ≤ W.heap.size
theorem TP.set {w W : World} {a1 : Option Addr} {n1 c1 : Nat} {a2 : Option Addr} {n2 c2 : Nat} {x : PC} {R : World → Prop} {v0 v1 v2 v3 v4 v5 u0 u1 u2 u3 u4 u5 : Value} (h : TP w W a1 n1 c1 a2 n2 c2 x R v0 v1 v2 v3 v4 v5) (j : Nat) (u : Value) (e : (#[v0, v1, v2, v3, v4, v5] : Array Value).setIfInBounds j u = #[u0, u1, u2, u3, u4, u5]) : TP w (W.setCell ⟨w.heap.size + 1 + 1, j, none⟩ u) a1 n1 c1 a2 n2 c2 x R u0 u1 u2 u3 u4 u5 := by
  have f : ∀ l, l ≠ w.heap.size + 2 → (W.setCell ⟨w.heap.size + 1 + 1, j, none⟩ u).heap[l]? = W.heap[l]? := fun l hl => Below.heap_setCell _ _ _ _ (by show l ≠ w.heap.size + 1 + 1; omega)
  refine ⟨(f _ (by omega)).trans h.b0, (f _ (by omega)).trans h.b1, ?_, h.stab _ _ (fun l hl _ => f l (by omega)) h.st, h.stab, ⟨h.below.os, h.below.tape, h.below.output, by simpa [World.setCell] using h.below.size, fun l hl => (f l (by omega)).trans (h.below.block l hl)⟩, by simpa [World.setCell] using h.lt⟩
  rw [← e]
  exact heap_setCell_same W (w.heap.size + 1 + 1) j _ 41 u h.b2
theorem TP.call {w W W' : World} {a1 : Option Addr} {n1 c1 : Nat} {a2 : Option Addr} {n2 c2 : Nat} {x : PC} {R S : World → Prop} {v0 v1 v2 v3 v4 v5 : Value} (h : TP w W a1 n1 c1 a2 n2 c2 x R v0 v1 v2 v3 v4 v5) (hb : Below W.heap.size W W') (hs : S W') (ss : StabP (w.heap.size + 3) S) : TP w W' a1 n1 c1 a2 n2 c2 x (fun X => R X ∧ S X) v0 v1 v2 v3 v4 v5 := by
  have hl := h.lt
  have f : ∀ l, l < W.heap.size → W'.heap[l]? = W.heap[l]? := fun l hl => hb.block l hl
  exact ⟨(f _ (by omega)).trans h.b0, (f _ (by omega)).trans h.b1, (f _ (by omega)).trans h.b2, ⟨h.stab _ _ (fun l _ hl => f l hl) h.st, hs⟩, h.stab.and ss, h.below.trans (hb.mono h.below.size), by have := hb.size; omega⟩
theorem TP.out {w W : World} {a1 : Option Addr} {n1 c1 : Nat} {a2 : Option Addr} {n2 c2 : Nat} {x : PC} {R : World → Prop} {v0 v1 v2 v3 v4 v5 : Value} (h : TP w W a1 n1 c1 a2 n2 c2 x R v0 v1 v2 v3 v4 v5) (j : Nat) : W.cell? ⟨w.heap.size + 1 + 1, j, none⟩ = (#[v0, v1, v2, v3, v4, v5] : Array Value)[j]? ∧ W.frozen? ⟨w.heap.size + 1 + 1, j, none⟩ = false ∧ W.cell? ⟨w.heap.size, j, none⟩ = (#[.slice a1 n1 c1, .slice a2 n2 c2, .bool x.self, .int .i64 x.need, .int .i64 x.nomap, .int .i64 x.noany] : Array Value)[j]? :=
  ⟨cell_of_row _ _ j _ 41 (0, 0) h.b2, frozen_of_row W _ j _ 41 h.b2, cell_of_row _ _ j _ 75 (0, 0) h.b0⟩
theorem TP.zero {w W : World} {a1 : Option Addr} {n1 c1 : Nat} {a2 : Option Addr} {n2 c2 : Nat} {x : PC} {R : World → Prop} {v0 v1 v2 v3 v4 v5 : Value} (h : TP w W a1 n1 c1 a2 n2 c2 x R v0 v1 v2 v3 v4 v5) (j : Nat) : W.cell? ⟨w.heap.size + 1, j, none⟩ = (#[.slice none 0 0, .slice none 0 0, .bool false, .int .i64 0, .int .i64 0, .int .i64 0] : Array Value)[j]? ∧ W.frozen? ⟨w.heap.size + 1, j, none⟩ = false :=
  ⟨cell_of_row _ _ j _ 41 (0, 0) h.b1, frozen_of_row W _ j _ 41 h.b1⟩
theorem three_blocksP (w : World) (o0 o1 o2 : Obj) : (((w.alloc o0).alloc o1).alloc o2).heap[w.heap.size]? = some o0 ∧ (((w.alloc o0).alloc o1).alloc o2).heap[w.heap.size + 1]? = some o1 ∧ (((w.alloc o0).alloc o1).alloc o2).heap[w.heap.size + 2]? = some o2 := by
  have s1 : (w.alloc o0).heap.size = w.heap.size + 1 := by simp
  have s2 : ((w.alloc o0).alloc o1).heap.size = w.heap.size + 2 := by simp
  exact ⟨(alloc_oldP _ o2 _ (by omega)).trans ((alloc_oldP _ o1 _ (by omega)).trans (heap_alloc_new w o0)), (alloc_oldP _ o2 _ (by omega)).trans (by rw [← s1]; exact heap_alloc_new _ o1), by rw [← s2]; exact heap_alloc_new _ o2⟩

end Go.Proofs.Ytdkgilkjcndonaa
