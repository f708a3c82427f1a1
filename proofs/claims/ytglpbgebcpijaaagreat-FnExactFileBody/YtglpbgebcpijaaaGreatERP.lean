import Derived.Test.YtglpbgebcpijaaaGreatTT4
import Derived.Test.YtglpbgebcpijaaaGreatW2
import Derived.Deep.RegionHeldLaw
import Derived.Deep.RegionWith
namespace Go.Proofs.YtglpbgebcpijaaaGreat
open Go.RowKit

def flPu (ps : List (Int × Int × Int)) : List Value := ps.flatMap fun p => [.int .i64 p.1, .int .u64 p.2.1, .int .i64 p.2.2]
theorem flPu_cons (p : Int × Int × Int) (r : List (Int × Int × Int)) : flPu (p :: r) = Value.int .i64 p.1 :: .int .u64 p.2.1 :: .int .i64 p.2.2 :: flPu r := rfl
theorem flPu_append (a b : List (Int × Int × Int)) : flPu (a ++ b) = flPu a ++ flPu b := by simp [flPu, List.flatMap_append]
theorem flPu_len (ps : List (Int × Int × Int)) : (flPu ps).length = ps.length * 3 := by
  induction ps with
  | nil => rfl
  | cons p r ih => rw [flPu_cons]; simp [ih]; omega
theorem flPu_get (ps : List (Int × Int × Int)) : ∀ k, k < ps.length → (flPu ps)[k * 3]? = some (.int .i64 (ps.getD k (0, 0, 0)).1) ∧ (flPu ps)[k * 3 + 1]? = some (.int .u64 (ps.getD k (0, 0, 0)).2.1) ∧ (flPu ps)[k * 3 + 2]? = some (.int .i64 (ps.getD k (0, 0, 0)).2.2) := by
  induction ps with
  | nil => intro k h; simp at h
  | cons p r ih =>
    intro k h
    cases k with
    | zero => simp [flPu_cons]
    | succ k =>
      have := ih k (by simpa using h)
      rw [flPu_cons, show (k + 1) * 3 = k * 3 + 1 + 1 + 1 by omega]
      simpa using this
theorem flPu_set (ps : List (Int × Int × Int)) : ∀ k (u : Int × Int × Int), k < ps.length → (((flPu ps).set (k * 3) (.int .i64 u.1)).set (k * 3 + 1) (.int .u64 u.2.1)).set (k * 3 + 2) (.int .i64 u.2.2) = flPu (ps.set k u) := by
  induction ps with
  | nil => intro k u h; simp at h
  | cons p r ih =>
    intro k u h
    cases k with
    | zero => simp [flPu_cons]
    | succ k =>
      have := ih k u (by simpa using h)
      rw [flPu_cons, show (k + 1) * 3 = k * 3 + 1 + 1 + 1 by omega]
      simp only [List.set_cons_succ, flPu_cons]
      rw [this]
theorem flPu_one (ps : List (Int × Int × Int)) : ∀ u ∈ flPu ps, u.oneCell' = true := by
  induction ps with
  | nil => intro u hu; simp [flPu] at hu
  | cons p r ih =>
    intro u hu
    rw [flPu_cons] at hu
    simp only [List.mem_cons] at hu
    rcases hu with rfl | rfl | rfl | hu
    · rfl
    · rfl
    · rfl
    · exact ih u hu
def UPu (ps : List (Int × Int × Int)) : Prop := ∀ k, U64 (ps.getD k (0, 0, 0)).2.1
structure RowPu (w : World) (a : Option Addr) (n : Nat) (ps : List (Int × Int × Int)) : Prop where
  len : ps.length = n
  get : ∀ k, k < n → ∃ b off, a = some ⟨b, off, none⟩ ∧ b < w.heap.size ∧ w.cell? ⟨b, off + k * 3, none⟩ = some (.int .i64 (ps.getD k (0, 0, 0)).1) ∧ w.cell? ⟨b, off + k * 3 + 1, none⟩ = some (.int .u64 (ps.getD k (0, 0, 0)).2.1) ∧ w.cell? ⟨b, off + k * 3 + 2, none⟩ = some (.int .i64 (ps.getD k (0, 0, 0)).2.2)
  rng : UPu ps
theorem RowPu.kept {w w' : World} {a : Option Addr} {n : Nat} {ps : List (Int × Int × Int)} (h : RowPu w a n ps) (hb : Below w.heap.size w w') : RowPu w' a n ps := by
  refine ⟨h.len, fun k hk => ?_, h.rng⟩
  obtain ⟨b, off, ha, hlt, h0, h1, h2⟩ := h.get k hk
  exact ⟨b, off, ha, Nat.lt_of_lt_of_le hlt hb.size, (hb.cell (p := ⟨b, off + k * 3, none⟩) hlt).trans h0, (hb.cell (p := ⟨b, off + k * 3 + 1, none⟩) hlt).trans h1, (hb.cell (p := ⟨b, off + k * 3 + 2, none⟩) hlt).trans h2⟩
theorem RowPu.in_ {w : World} {a : Option Addr} {n : Nat} {ps : List (Int × Int × Int)} (h : RowPu w a n ps) : In a n 0 w.heap.size := by
  intro b off ha hn
  obtain ⟨b', off', ha', hb, _⟩ := h.get 0 hn
  rw [ha'] at ha
  simp at ha
  omega
theorem RowPu.touch {lo hi p q : Nat} {w w' : World} {a : Option Addr} {n : Nat} {ps : List (Int × Int × Int)} (h : RowPu w a n ps) (hi' : In a n p q) (hd : q ≤ lo ∨ hi ≤ p) (ht : Touch lo hi w w') : RowPu w' a n ps := by
  refine ⟨h.len, fun k hk => ?_, h.rng⟩
  obtain ⟨b, off, ha, hlt, h0, h1, h2⟩ := h.get k hk
  have hp := hi' b off ha (by omega)
  exact ⟨b, off, ha, Nat.lt_of_lt_of_le hlt ht.size, (World.cell?_of_block (a := ⟨b, off + k * 3, none⟩) (ht.block b hlt (by omega))).trans h0, (World.cell?_of_block (a := ⟨b, off + k * 3 + 1, none⟩) (ht.block b hlt (by omega))).trans h1, (World.cell?_of_block (a := ⟨b, off + k * 3 + 2, none⟩) (ht.block b hlt (by omega))).trans h2⟩
structure OwnPu (B : Nat) (w : World) (a : Option Addr) (n cap : Nat) (ps : List (Int × Int × Int)) : Prop where
  row : w.ownsRow B 120 3 (.slice a n cap) n (flPu ps)
  rng : UPu ps
theorem OwnPu.len {B : Nat} {w : World} {a : Option Addr} {n cap : Nat} {ps : List (Int × Int × Int)} (h : OwnPu B w a n cap ps) : ps.length = n := by
  have := h.row.1
  rw [flPu_len] at this
  omega
theorem OwnPu.shape {B : Nat} {w : World} {a : Option Addr} {n cap : Nat} {ps : List (Int × Int × Int)} (h : OwnPu B w a n cap ps) (hn : 0 < n) : ∃ g, a = some ⟨g, 0, none⟩ ∧ B ≤ g ∧ g < w.heap.size := by
  rcases h.row.2 with ⟨_, h0⟩ | ⟨g, cap', cur, hv, hb, hg, _⟩
  · omega
  · simp only [Value.slice.injEq] at hv
    exact ⟨g, hv.1, hb, (Array.getElem?_eq_some_iff.1 hg).1⟩
theorem OwnPu.in_ {B : Nat} {w : World} {a : Option Addr} {n cap : Nat} {ps : List (Int × Int × Int)} (h : OwnPu B w a n cap ps) : In a n B w.heap.size := by
  intro b off ha hn
  obtain ⟨g, hg, h1, h2⟩ := h.shape hn
  rw [hg] at ha
  simp at ha
  omega
theorem OwnPu.toRow {B : Nat} {w : World} {a : Option Addr} {n cap : Nat} {ps : List (Int × Int × Int)} (h : OwnPu B w a n cap ps) : RowPu w a n ps := by
  refine ⟨h.len, fun k hk => ?_, h.rng⟩
  obtain ⟨g, rfl, _, hg⟩ := h.shape (by omega)
  have hf := flPu_get ps k (by rw [h.len]; exact hk)
  exact ⟨g, 0, rfl, hg, by rw [Nat.zero_add, h.row.cellAt _ (by omega)]; exact hf.1, by rw [Nat.zero_add, h.row.cellAt _ (by omega)]; exact hf.2.1, by rw [Nat.zero_add, h.row.cellAt _ (by omega)]; exact hf.2.2⟩
theorem OwnPu.kept {B : Nat} {w w' : World} {a : Option Addr} {n cap : Nat} {ps : List (Int × Int × Int)} (h : OwnPu B w a n cap ps) (hb : Below w.heap.size w w') : OwnPu B w' a n cap ps := ⟨ownsRow_below h.row hb, h.rng⟩
theorem OwnPu.mono {B B' : Nat} {w : World} {a : Option Addr} {n cap : Nat} {ps : List (Int × Int × Int)} (h : OwnPu B w a n cap ps) (hB : B' ≤ B) : OwnPu B' w a n cap ps :=
  ⟨⟨h.row.1, by rcases h.row.2 with h | ⟨g, cap, cur, hv, hb, r⟩; exact .inl h; exact .inr ⟨g, cap, cur, hv, by omega, r⟩⟩, h.rng⟩
theorem OwnPu.touch {lo hi p q B : Nat} {w w' : World} {a : Option Addr} {n cap : Nat} {ps : List (Int × Int × Int)} (h : OwnPu B w a n cap ps) (hi' : In a n p q) (hd : q ≤ lo ∨ hi ≤ p) (ht : Touch lo hi w w') (hn : 0 < n) : OwnPu B w' a n cap ps := by
  refine ⟨⟨h.row.1, ?_⟩, h.rng⟩
  rcases h.row.2 with hn' | ⟨g, cap', cur, hv, hbb, hgg, rest⟩
  · exact .inl hn'
  · simp only [Value.slice.injEq] at hv
    obtain ⟨rfl, _, rfl⟩ := hv
    have hp := hi' g 0 rfl hn
    exact .inr ⟨g, cap, cur, rfl, hbb, (ht.block g (Array.getElem?_eq_some_iff.1 hgg).1 (by omega)).trans hgg, rest⟩
theorem OwnPu.nil {B : Nat} {w : World} {a : Option Addr} {n cap : Nat} {ps : List (Int × Int × Int)} (h : OwnPu B w a n cap ps) : a = none → cap = 0 := by
  intro e
  subst e
  rcases h.row.2 with ⟨h0, _⟩ | ⟨g, cap', cur, hv, _⟩
  · simp only [Value.slice.injEq] at h0
    exact h0.2.2
  · simp at hv
theorem UPu.nil : UPu [] := by intro k; simp [U64]
theorem UPu.append {a b : List (Int × Int × Int)} (h : UPu a) (k : UPu b) : UPu (a ++ b) := by
  intro i
  by_cases hi : i < a.length
  · have e : (a ++ b).getD i (0, 0, 0) = a.getD i (0, 0, 0) := by rw [List.getD_eq_getElem?_getD, List.getElem?_append_left hi, ← List.getD_eq_getElem?_getD]
    rw [e]; exact h i
  · have e : (a ++ b).getD i (0, 0, 0) = b.getD (i - a.length) (0, 0, 0) := by simp [List.getElem?_append_right (Nat.le_of_not_lt hi)]
    rw [e]; exact k _
theorem UPu.set {a : List (Int × Int × Int)} (h : UPu a) (i : Nat) (u : Int × Int × Int) (hu : U64 u.2.1) : UPu (a.set i u) := by
  intro k
  by_cases e : i = k
  · subst e
    by_cases hl : i < a.length
    · have e2 : (a.set i u).getD i (0, 0, 0) = u := by simp [hl]
      rw [e2]; exact hu
    · have e2 : (a.set i u).getD i (0, 0, 0) = a.getD i (0, 0, 0) := by simp [List.set_eq_of_length_le (Nat.le_of_not_lt hl)]
      rw [e2]; exact h i
  · have e2 : (a.set i u).getD k (0, 0, 0) = a.getD k (0, 0, 0) := by simp [List.getElem?_set_ne e]
    rw [e2]; exact h k
theorem UPu.one {u : Int × Int × Int} (hu : U64 u.2.1) : UPu [u] := by
  intro k
  cases k with
  | zero => exact hu
  | succ k => simp [U64]
theorem ownPu_none (B : Nat) (w : World) : OwnPu B w none 0 0 [] := ⟨World.ownsRow_nil _ _ _ _, UPu.nil⟩
theorem ownPu_appended {B : Nat} {w : World} {v : Value} {m : Nat} {xs ys : List (Int × Int × Int)} (hx : UPu xs) (hy : UPu ys) (h : w.ownsRow B 120 3 v m (flPu xs ++ flPu ys)) : ∃ a cap, v = .slice a m cap ∧ OwnPu B w a m cap (xs ++ ys) := by
  rw [← flPu_append] at h
  rcases h.2 with ⟨rfl, rfl⟩ | ⟨g, cap, cur, rfl, _⟩
  · exact ⟨_, _, rfl, h, hx.append hy⟩
  · exact ⟨_, _, rfl, h, hx.append hy⟩
theorem Tryz.infoPu : (Tryz.prog.info? 120).map (fun i => (i.zero, i.size, i.bytes)) = some (some (.agg #[.int .i64 0, .int .u64 0, .int .i64 0]), 3, 24) := by kernel_rfl
theorem cell_onePu (w : World) (p : Int × Int × Int) : ∀ jj uu, (flPu [p])[jj]? = some uu → (w.alloc (.cells #[.int .i64 p.1, .int .u64 p.2.1, .int .i64 p.2.2] 120)).cell? ((⟨w.heap.size, 0, none⟩ : Addr).add jj) = some uu := by
  intro jj uu hju
  rw [Addr.add_lit, Nat.zero_add, cell_of_row _ w.heap.size jj _ 120 _ (heap_alloc_new w _), ← hju]
  simp [flPu]
theorem OwnPu.store {B : Nat} {w : World} {g n cap : Nat} {ps : List (Int × Int × Int)} (h : OwnPu B w (some ⟨g, 0, none⟩) n cap ps) (k : Nat) (hk : k < n) (u : Int × Int × Int) (hu : U64 u.2.1) :
    OwnPu B (((w.setCell ⟨g, k * 3, none⟩ (.int .i64 u.1)).setCell ⟨g, k * 3 + 1, none⟩ (.int .u64 u.2.1)).setCell ⟨g, k * 3 + 2, none⟩ (.int .i64 u.2.2)) (some ⟨g, 0, none⟩) n cap (ps.set k u) := by
  refine ⟨?_, h.rng.set k u hu⟩
  have := (((h.row.stored (k * 3) (.int .i64 u.1)).1.stored (k * 3 + 1) (.int .u64 u.2.1)).1.stored (k * 3 + 2) (.int .i64 u.2.2)).1
  rwa [flPu_set ps k u (by rw [h.len]; exact hk)] at this
def aggPu (p : Int × Int × Int) : Value := .agg #[.int .i64 p.1, .int .u64 p.2.1, .int .i64 p.2.2]

set_option maxRecDepth 10000 in
set_option maxHeartbeats 400000 in
theorem eqPu_same (p : Int × Int × Int) (w : World) :
    Calls Tryz.prog 136 #[aggPu p, aggPu p] w fun e w' => e = .returned (.bool true) ∧ Below w.heap.size w w' := by
  obtain ⟨a0, a1, a2⟩ := p
  unfold aggPu
  have z0 : (a0 != a0) = false := by simp
  have z1 : (a1 != a1) = false := by simp
  have z2 : (a2 != a2) = false := by simp
  go_enter Tryz.func136, Tryz.ntmps136
  go_wp2
  go_ret
  exact ⟨rfl, ((Below.refl _ _).alloc (Nat.le_refl _) _).alloc (by simp) _⟩

set_option maxRecDepth 10000 in
set_option maxHeartbeats 2000000 in
theorem eqPuS_same (a b : Option Addr) (n ca cb : Nat) (ps : List (Int × Int × Int)) (w : World) (hx : RowPu w a n ps) (hy : RowPu w b n ps) (hn : n ≤ 9223372036854775807) :
    Calls Tryz.prog 122 #[.slice a n ca, .slice b n cb] w fun e w' => e = .returned (.bool true) ∧ Below w.heap.size w w' := by
  have HX : Hid (RowPu w a n ps) := hx
  have HY : Hid (RowPu w b n ps) := hy
  clear hx hy
  have zn : ((n : Int) != (n : Int)) = false := by simp
  go_enter Tryz.func122, Tryz.ntmps122
  go_wp2
  go_loopw [5] (fun i wr => ∃ k : Nat, k ≤ n ∧ i = .int .i64 k ∧ Below w.heap.size w wr) (fun i _ => n - (intOf i).toNat)
  case atStart => exact ⟨0, Nat.zero_le _, rfl, Below.refl _ _⟩
  case round =>
    obtain ⟨k, hk, rfl, hbr⟩ := hrel
    by_cases hlt : k < n
    · obtain ⟨b1, o1, rfl, hl1, x0, x1, x2⟩ := (HX.out.kept hbr).get k hlt
      obtain ⟨b2, o2, rfl, hl2, y0, y1, y2⟩ := (HY.out.kept hbr).get k hlt
      obtain ⟨q, hq⟩ : ∃ q, q = ps.getD k (0, 0, 0) := ⟨_, rfl⟩
      rw [← hq] at x0 x1 x2 y0 y1 y2
      clear hq
      have hlti : (k : Int) < (n : Int) := by omega
      go_wp2_with fail
      have EQ : Hid (Calls Tryz.prog 136 #[aggPu q, aggPu q] wr.drew fun e w' => e = .returned (.bool true) ∧ Below wr.drew.heap.size wr.drew w') := eqPu_same q wr.drew
      unfold aggPu at EQ
      have e0 : wr.drew.cell? ⟨b1, o1 + k * 3, none⟩ = some (.int .i64 q.1) := x0
      go_region_with ((go_at_call 136; refine Calls.mono EQ.out ?_; rintro e w2 ⟨rfl, hb2⟩))
      all_goals
        go_wp2
        go_roundw
        case rel => exact ⟨k + 1, by omega, by go_num, keepT hbr.drew hb2⟩
        case measure => simp [intOf]; omega
    · go_wp2
      go_ret
      exact ⟨rfl, hbr⟩

def Pre_Pu (vs : List Value) (ps : List (Int × Int × Int)) (k : Nat) : Prop := ∀ j, j < k → vs[j * 3]? = some (.int .i64 (ps.getD j (0, 0, 0)).1) ∧ vs[j * 3 + 1]? = some (.int .u64 (ps.getD j (0, 0, 0)).2.1) ∧ vs[j * 3 + 2]? = some (.int .i64 (ps.getD j (0, 0, 0)).2.2)
theorem Pre_Pu.set {vs : List Value} {ps : List (Int × Int × Int)} {k : Nat} (h : Pre_Pu vs ps k) (hv : k * 3 + 2 < vs.length) : Pre_Pu (((vs.set (k * 3) (.int .i64 (ps.getD k (0, 0, 0)).1)).set (k * 3 + 1) (.int .u64 (ps.getD k (0, 0, 0)).2.1)).set (k * 3 + 2) (.int .i64 (ps.getD k (0, 0, 0)).2.2)) ps (k + 1) := by
  intro j hj
  by_cases e : j = k
  · subst e
    exact ⟨by simp [List.getElem?_set]; omega, by simp [List.getElem?_set]; omega, by simp [List.getElem?_set]; omega⟩
  · have := h j (by omega)
    exact ⟨by simp only [List.getElem?_set]; rw [if_neg (by omega)]; rw [if_neg (by omega)]; rw [if_neg (by omega)]; exact this.1, by simp only [List.getElem?_set]; rw [if_neg (by omega)]; rw [if_neg (by omega)]; rw [if_neg (by omega)]; exact this.2.1, by simp only [List.getElem?_set]; rw [if_neg (by omega)]; rw [if_neg (by omega)]; rw [if_neg (by omega)]; exact this.2.2⟩
theorem Pre_Pu.all {vs : List Value} {ps : List (Int × Int × Int)} {n : Nat} (h : Pre_Pu vs ps n) (hv : vs.length = n * 3) (hl : ps.length = n) : vs = flPu ps := by
  apply List.ext_getElem?
  intro i
  by_cases hi : i < n * 3
  · have hk : i / 3 < n := by omega
    have h1 := h (i / 3) hk
    have h2 := flPu_get ps (i / 3) (by omega)
    rcases (show i = i / 3 * 3 ∨ i = i / 3 * 3 + 1 ∨ i = i / 3 * 3 + 2 by omega) with e | e | e
    · rw [e, h1.1, h2.1]
    · rw [e, h1.2.1, h2.2.1]
    · rw [e, h1.2.2, h2.2.2]
  · rw [List.getElem?_eq_none (by omega), List.getElem?_eq_none (by rw [flPu_len]; omega)]

theorem results_Pu {fn : Func} {t : Tmp} (h : fn.results = #[.cell t 120]) (tmps : Array Value) (g : Nat) (ht : tmps.getD t undef = .pointer (some ⟨g, 0, none⟩)) (w : World) (p : Int × Int × Int)
    (hb : w.heap[g]? = some (.cells #[.int .i64 p.1, .int .u64 p.2.1, .int .i64 p.2.2] 120 (0, 0))) : (results fn tmps).run Tryz.prog w = .ok (aggPu p) w := by
  have d0 : w.cell? ⟨g, 0, none⟩ = some (.int .i64 p.1) := (cell_of_row _ g 0 _ 120 (0, 0) hb).trans rfl
  have d1 : w.cell? ⟨g, 1, none⟩ = some (.int .u64 p.2.1) := (cell_of_row _ g 1 _ 120 (0, 0) hb).trans rfl
  have d2 : w.cell? ⟨g, 2, none⟩ = some (.int .i64 p.2.2) := (cell_of_row _ g 2 _ 120 (0, 0) hb).trans rfl
  clear hb
  have ht' : tmps[t]?.getD undef = .pointer (some ⟨g, 0, none⟩) := by rw [← ht]; simp
  simp [results, h, go_sem, ht', d0, d1, d2, aggPu]

set_option maxRecDepth 10000 in
set_option maxHeartbeats 1000000 in
theorem toPu_any (p : Int × Int × Int) (w : World) :
    Calls Tryz.prog 135 #[aggPu p] w fun e w' => e = .returned (aggPu p) ∧ Below w.heap.size w w' := by
  have s1 : (w.alloc (.cells #[.int .i64 p.1, .int .u64 p.2.1, .int .i64 p.2.2] 195)).heap.size = w.heap.size + 1 := by simp
  have HB1 : Hid (((((w.alloc (.cells #[.int .i64 p.1, .int .u64 p.2.1, .int .i64 p.2.2] 195)).alloc (.cells #[.int .i64 p.1, .int .u64 p.2.1, .int .i64 p.2.2] 120)).alloc (.cells #[.int .i64 p.1, .int .u64 p.2.1, .int .i64 p.2.2] 120))).heap[w.heap.size + 1]? = some (.cells #[.int .i64 p.1, .int .u64 p.2.1, .int .i64 p.2.2] 120)) := by
    show _ = _
    exact (heap_alloc_old _ _ (by simp)).trans (by rw [← s1]; exact heap_alloc_new _ _)
  clear s1
  rw [aggPu]
  go_enter Tryz.func135, Tryz.ntmps135
  go_wp2
  try simp only [Exit.inBlock, Exit.then]
  exact bodyPost_ret (results_Pu rfl _ (w.heap.size + 1) rfl _ p HB1.out) rfl ⟨rfl, (((Below.refl _ _).alloc (Nat.le_refl _) _).alloc (by simp) _).alloc (by simp; omega) _⟩

set_option maxRecDepth 10000 in
set_option maxHeartbeats 2000000 in
theorem toPuS_any (a : Option Addr) (n c : Nat) (ps : List (Int × Int × Int)) (w : World) (h : RowPu w a n ps) (hn : n ≤ 1048576) :
    Calls Tryz.prog 120 #[.slice a n c] w fun e w' => ∃ ar, e = .returned (.slice ar n n) ∧ OwnPu w.heap.size w' ar n n ps ∧ Below w.heap.size w w' := by
  obtain ⟨i0, hi, hz0, hz1, hz2⟩ := info_parts Tryz.infoPu
  have H0 : Hid (RowPu w a n ps) := h
  have HL : Hid (ps.length = n) := h.len
  have HR : Hid (UPu ps) := h.rng
  clear h
  go_enter Tryz.func120, Tryz.ntmps120
  go_wp2_with (first | (at_make; refine wpList_make_full _ rfl _ _ 111 rfl w.heap.size 120 i0 _ 3 Tryz.underlying111 hi hz0 hz1 _ _ _ _ n rfl rfl rfl rfl (by rw [hz2]; omega) (by unfold maxLen; omega) (by exact Nat.le_refl _) ?_; intro w2 hown hgrow))
  have hbl : Below w.heap.size w w2 := (Below.refl _ _).grown hgrow (Nat.le_refl _) (by simp)
  clear hgrow hi hz0 hz1 hz2
  go_loopw [4] (fun i wr => ∃ k : Nat, k ≤ n ∧ i = .int .i64 k ∧ (∃ vs, wr.ownsRow w.heap.size 120 3 (.slice (some ⟨w.heap.size, 0, none⟩) n n) n vs ∧ Pre_Pu vs ps k) ∧ Below w.heap.size w wr) (fun i _ => n - (intOf i).toNat)
  case atStart => exact ⟨0, Nat.zero_le _, rfl, ⟨_, hown, fun j hj => absurd hj (Nat.not_lt_zero _)⟩, hbl⟩
  case round =>
    obtain ⟨k, hk, rfl, ⟨vs, hor, hpre⟩, hbr⟩ := hrel
    by_cases hkn : k < n
    · obtain ⟨b, off, rfl, hlb, x0, x1, x2⟩ := (H0.out.kept hbr).get k hkn
      obtain ⟨p, hp⟩ : ∃ p, p = ps.getD k (0, 0, 0) := ⟨_, rfl⟩
      rw [← hp] at x0 x1 x2
      have HP : Hid (ps.getD k (0, 0, 0) = p) := hp.symm
      have hkni : (k : Int) < (n : Int) := by omega
      have HPRE : Hid (Pre_Pu vs ps k) := hpre
      have HOR : Hid (wr.ownsRow w.heap.size 120 3 (.slice (some ⟨w.heap.size, 0, none⟩) n n) n vs) := hor
      have hws := hbr.size
      have TO := fun W => toPu_any p W
      unfold aggPu at TO
      clear hp hpre hor hown hbl
      go_wp2_with fail
      refine (TO _).mono ?_
      rintro e w3 ⟨rfl, hb3⟩
      have hor3 := ownsRow_below HOR.out hb3
      have hvl : vs.length = n * 3 := hor3.1
      have f0 : w3.frozen? ⟨w.heap.size, k * 3, none⟩ = false := hor3.frozenAt _
      have f1 : w3.frozen? ⟨w.heap.size, k * 3 + 1, none⟩ = false := hor3.frozenAt _
      have f2 : w3.frozen? ⟨w.heap.size, k * 3 + 2, none⟩ = false := hor3.frozenAt _
      obtain ⟨y0, hy0⟩ : ∃ y, w3.cell? ⟨w.heap.size, k * 3, none⟩ = some y := ⟨_, (hor3.cellAt _ (by omega)).trans (List.getElem?_eq_getElem (by omega))⟩
      obtain ⟨y1, hy1⟩ : ∃ y, w3.cell? ⟨w.heap.size, k * 3 + 1, none⟩ = some y := ⟨_, (hor3.cellAt _ (by omega)).trans (List.getElem?_eq_getElem (by omega))⟩
      obtain ⟨y2, hy2⟩ : ∃ y, w3.cell? ⟨w.heap.size, k * 3 + 2, none⟩ = some y := ⟨_, (hor3.cellAt _ (by omega)).trans (List.getElem?_eq_getElem (by omega))⟩
      have hP := HPRE.out.set (by omega)
      rw [HP.out] at hP
      have hO := (((hor3.stored (k * 3) (.int .i64 p.1)).1.stored (k * 3 + 1) (.int .u64 p.2.1)).1.stored (k * 3 + 2) (.int .i64 p.2.2)).1
      have hB : Below w.heap.size w (((w3.setCell ⟨w.heap.size, k * 3, none⟩ (.int .i64 p.1)).setCell ⟨w.heap.size, k * 3 + 1, none⟩ (.int .u64 p.2.1)).setCell ⟨w.heap.size, k * 3 + 2, none⟩ (.int .i64 p.2.2)) := ((((keepT hbr hb3).setCell (Nat.le_refl _) _).setCell (Nat.le_refl _) _).setCell (Nat.le_refl _) _)
      have FIN : Hid (_ ∧ _ ∧ _) := ⟨hO, hP, hB⟩
      clear hP hO hB hor3 hb3 hbr HPRE HOR TO
      go_wp2
      go_roundw
      case rel => exact ⟨k + 1, by omega, by go_num, ⟨_, FIN.out.1, FIN.out.2.1⟩, FIN.out.2.2⟩
      case measure => simp [intOf]; omega
    · obtain rfl : k = n := by omega
      have hvs := hpre.all hor.1 HL.out
      rw [hvs] at hor
      have FIN : Hid (OwnPu w.heap.size wr (some ⟨w.heap.size, 0, none⟩) k k ps ∧ Below w.heap.size w wr) := ⟨⟨hor, HR.out⟩, hbr⟩
      clear hor hpre hbr hvs hown hbl
      go_wp2
      go_ret
      exact ⟨_, rfl, FIN.out.1, FIN.out.2⟩

set_option maxRecDepth 10000 in
set_option maxHeartbeats 1000000 in
theorem szPuS_any (a : Option Addr) (n c : Nat) (l : Int) (w : World) (hn : n ≤ 9223372036854775807) (h0 : 0 ≤ l) (h1 : l ≤ 1048576) :
    Calls Tryz.prog 115 #[.slice a n c, .int .i64 l] w fun e w' => e = .returned (.int .i64 (if l < n then -1 else l - n)) ∧ w' = w := by
  by_cases hlt : l < n
  · have h' : l - (n : Int) < 0 := by omega
    rw [if_pos hlt]
    go_enter Tryz.func115, Tryz.ntmps115
    go_wp2
    go_ret
    exact ⟨rfl, rfl⟩
  · have h' : 0 ≤ l - (n : Int) := by omega
    rw [if_neg hlt]
    go_enter Tryz.func115, Tryz.ntmps115
    go_wp2
    go_ret
    exact ⟨rfl, rfl⟩

theorem touch_onePu {p q : Nat} (w : World) (g j : Nat) (u : Value) (h1 : p ≤ g) (h2 : g < q) : Touch p q w (w.setCell ⟨g, j, none⟩ u) :=
  ⟨rfl, rfl, rfl, by simp, fun k _ hk => heap_setCell_other w ⟨g, j, none⟩ k u (by simp; omega)⟩
def mkPu (k i : Nat) : Int × Int × Int := (((k + 3 * i : Nat) : Int), ((k + 3 * i + 1 : Nat) : Int), ((k + 3 * i + 2 : Nat) : Int))
def marksPu (k n : Nat) : List (Int × Int × Int) := (List.range n).map (mkPu k)
def mkdPu (ps : List (Int × Int × Int)) (k j : Nat) : List (Int × Int × Int) := marksPu k j ++ ps.drop j
theorem mkdPu_zero (ps : List (Int × Int × Int)) (k : Nat) : mkdPu ps k 0 = ps := by simp [mkdPu, marksPu]
theorem mkdPu_all (ps : List (Int × Int × Int)) (k : Nat) : mkdPu ps k ps.length = marksPu k ps.length := by simp [mkdPu]
theorem mkdPu_set (ps : List (Int × Int × Int)) (k j : Nat) (h : j < ps.length) : (mkdPu ps k j).set j (mkPu k j) = mkdPu ps k (j + 1) := by
  unfold mkdPu
  rw [List.drop_eq_getElem_cons h, set_append_mid _ _ _ _ _ (by simp [marksPu]), show marksPu k (j + 1) = marksPu k j ++ [mkPu k j] by simp [marksPu, List.range_succ], List.append_assoc]
  rfl
theorem marksPu_get (k n i : Nat) (h : i < n) : (marksPu k n).getD i (0, 0, 0) = mkPu k i := by simp [marksPu, h]

set_option maxRecDepth 10000 in
set_option maxHeartbeats 2000000 in
theorem markPuS_any (B : Nat) (a : Option Addr) (n cap k : Nat) (ps : List (Int × Int × Int)) (w : World) (h : OwnPu B w a n cap ps) (hn : n ≤ 10000000) (hk : k ≤ 10000000) :
    Calls Tryz.prog 100 #[.slice a n cap, .int .i64 k] w fun e w' => e = .returned (.int .i64 (k + 3 * n : Nat)) ∧ OwnPu B w' a n cap (marksPu k n) ∧ ∀ p q, In a n p q → Touch p q w w' := by
  have HL : Hid (ps.length = n) := h.len
  have HO : Hid (OwnPu B w a n cap (mkdPu ps k 0)) := by show OwnPu _ _ _ _ _ _; rw [mkdPu_zero]; exact h
  clear h
  go_enter Tryz.func100, Tryz.ntmps100
  go_wp2
  go_loopw [1, 5] (fun kk i wr => ∃ j : Nat, j ≤ n ∧ i = .int .i64 j ∧ kk = .int .i64 (k + 3 * j : Nat) ∧ OwnPu B wr a n cap (mkdPu ps k j) ∧ (∀ p q, In a n p q → Touch p q w wr)) (fun _ i _ => n - (intOf i).toNat)
  case atStart => exact ⟨0, Nat.zero_le _, rfl, rfl, HO.out, fun p q _ => Touch.of_below (Below.refl _ _)⟩
  case round =>
    obtain ⟨j, hj, rfl, rfl, hor, htr⟩ := hrel
    by_cases hlt : j < n
    · obtain ⟨g, rfl, hg0, hg1⟩ := hor.shape (by omega)
      have hfl : (flPu (mkdPu ps k j)).length = n * 3 := hor.row.1
      have f0 : wr.frozen? ⟨g, j * 3, none⟩ = false := hor.row.frozenAt _
      have f1 : wr.frozen? ⟨g, j * 3 + 1, none⟩ = false := hor.row.frozenAt _
      have f2 : wr.frozen? ⟨g, j * 3 + 2, none⟩ = false := hor.row.frozenAt _
      obtain ⟨y0, hy0⟩ : ∃ y, wr.cell? ⟨g, j * 3, none⟩ = some y := ⟨_, (hor.row.cellAt _ (by omega)).trans (List.getElem?_eq_getElem (by omega))⟩
      obtain ⟨y1, hy1⟩ : ∃ y, wr.cell? ⟨g, j * 3 + 1, none⟩ = some y := ⟨_, (hor.row.cellAt _ (by omega)).trans (List.getElem?_eq_getElem (by omega))⟩
      obtain ⟨y2, hy2⟩ : ∃ y, wr.cell? ⟨g, j * 3 + 2, none⟩ = some y := ⟨_, (hor.row.cellAt _ (by omega)).trans (List.getElem?_eq_getElem (by omega))⟩
      have hs := hor.store j hlt (mkPu k j) (⟨by simp [mkPu]; omega, by simp [mkPu]; omega⟩)
      rw [mkdPu_set ps k j (by rw [HL.out]; exact hlt)] at hs
      have e0 : (mkPu k j).1 = (k : Int) + 3 * (j : Int) := by simp [mkPu]
      have e1 : (mkPu k j).2.1 = (k : Int) + 3 * (j : Int) + 1 := by simp [mkPu]
      have e2 : (mkPu k j).2.2 = (k : Int) + 3 * (j : Int) + 2 := by simp [mkPu]
      rw [e0, e1, e2] at hs
      have ht : ∀ p q, In (some ⟨g, 0, none⟩) n p q → Touch p q w (((wr.setCell ⟨g, j * 3, none⟩ (.int .i64 ((k : Int) + 3 * (j : Int)))).setCell ⟨g, j * 3 + 1, none⟩ (.int .u64 ((k : Int) + 3 * (j : Int) + 1))).setCell ⟨g, j * 3 + 2, none⟩ (.int .i64 ((k : Int) + 3 * (j : Int) + 2))) := fun p q hin => by
        have hp := hin g 0 rfl (by omega)
        exact (((htr p q hin).trans (touch_onePu _ g (j * 3) _ hp.1 hp.2)).trans (touch_onePu _ g (j * 3 + 1) _ hp.1 hp.2)).trans (touch_onePu _ g (j * 3 + 2) _ hp.1 hp.2)
      have FIN : Hid (_ ∧ _) := ⟨hs, ht⟩
      have hlti : (j : Int) < (n : Int) := by omega
      clear hor htr hs ht e0 e1 e2 hfl
      go_wp2
      go_roundw
      case rel => exact ⟨j + 1, by omega, by go_num, by go_num, FIN.out.1, FIN.out.2⟩
      case measure => simp [intOf]; omega
    · obtain rfl : j = n := by omega
      have hm : mkdPu ps k j = marksPu k j := by rw [← HL.out]; exact mkdPu_all ps k
      rw [hm] at hor
      have FIN : Hid (_ ∧ _) := ⟨hor, htr⟩
      clear hor htr hm
      go_wp2
      go_ret
      exact ⟨by go_num, FIN.out.1, FIN.out.2⟩

end Go.Proofs.YtglpbgebcpijaaaGreat
