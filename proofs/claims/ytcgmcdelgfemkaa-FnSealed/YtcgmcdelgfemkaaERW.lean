import Derived.Test.YtcgmcdelgfemkaaTT4
import Derived.Test.YtcgmcdelgfemkaaW1W2
import Derived.Deep.RegionHeldLaw
import Derived.Deep.RegionWith
namespace Go.Proofs.Ytcgmcdelgfemkaa
open Go.RowKit

def flWr (ps : List (Int × Int)) : List Value := ps.flatMap fun p => [.int .u64 p.1, .int .u64 p.2]
theorem flWr_cons (p : Int × Int) (r : List (Int × Int)) : flWr (p :: r) = Value.int .u64 p.1 :: .int .u64 p.2 :: flWr r := rfl
theorem flWr_append (a b : List (Int × Int)) : flWr (a ++ b) = flWr a ++ flWr b := by simp [flWr, List.flatMap_append]
theorem flWr_len (ps : List (Int × Int)) : (flWr ps).length = ps.length * 2 := by
  induction ps with
  | nil => rfl
  | cons p r ih => rw [flWr_cons]; simp [ih]; omega
theorem flWr_get (ps : List (Int × Int)) : ∀ k, k < ps.length → (flWr ps)[k * 2]? = some (.int .u64 (ps.getD k (0, 0)).1) ∧ (flWr ps)[k * 2 + 1]? = some (.int .u64 (ps.getD k (0, 0)).2) := by
  induction ps with
  | nil => intro k h; simp at h
  | cons p r ih =>
    intro k h
    cases k with
    | zero => simp [flWr_cons]
    | succ k =>
      have := ih k (by simpa using h)
      rw [flWr_cons, show (k + 1) * 2 = k * 2 + 1 + 1 by omega]
      simpa using this
theorem flWr_set (ps : List (Int × Int)) : ∀ k (u : Int × Int), k < ps.length → ((flWr ps).set (k * 2) (.int .u64 u.1)).set (k * 2 + 1) (.int .u64 u.2) = flWr (ps.set k u) := by
  induction ps with
  | nil => intro k u h; simp at h
  | cons p r ih =>
    intro k u h
    cases k with
    | zero => simp [flWr_cons]
    | succ k =>
      have := ih k u (by simpa using h)
      rw [flWr_cons, show (k + 1) * 2 = k * 2 + 1 + 1 by omega]
      simp only [List.set_cons_succ, flWr_cons]
      rw [this]
theorem flWr_one (ps : List (Int × Int)) : ∀ u ∈ flWr ps, u.oneCell' = true := by
  induction ps with
  | nil => intro u hu; simp [flWr] at hu
  | cons p r ih =>
    intro u hu
    rw [flWr_cons] at hu
    simp only [List.mem_cons] at hu
    rcases hu with rfl | rfl | hu
    · rfl
    · rfl
    · exact ih u hu
def UWr (ps : List (Int × Int)) : Prop := ∀ k, U64 (ps.getD k (0, 0)).1 ∧ U64 (ps.getD k (0, 0)).2
structure RowWr (w : World) (a : Option Addr) (n : Nat) (ps : List (Int × Int)) : Prop where
  len : ps.length = n
  get : ∀ k, k < n → ∃ b off, a = some ⟨b, off, none⟩ ∧ b < w.heap.size ∧ w.cell? ⟨b, off + k * 2, none⟩ = some (.int .u64 (ps.getD k (0, 0)).1) ∧ w.cell? ⟨b, off + k * 2 + 1, none⟩ = some (.int .u64 (ps.getD k (0, 0)).2)
  rng : UWr ps
theorem RowWr.kept {w w' : World} {a : Option Addr} {n : Nat} {ps : List (Int × Int)} (h : RowWr w a n ps) (hb : Below w.heap.size w w') : RowWr w' a n ps := by
  refine ⟨h.len, fun k hk => ?_, h.rng⟩
  obtain ⟨b, off, ha, hlt, h0, h1⟩ := h.get k hk
  exact ⟨b, off, ha, Nat.lt_of_lt_of_le hlt hb.size, (hb.cell (p := ⟨b, off + k * 2, none⟩) hlt).trans h0, (hb.cell (p := ⟨b, off + k * 2 + 1, none⟩) hlt).trans h1⟩
theorem RowWr.in_ {w : World} {a : Option Addr} {n : Nat} {ps : List (Int × Int)} (h : RowWr w a n ps) : In a n 0 w.heap.size := by
  intro b off ha hn
  obtain ⟨b', off', ha', hb, _⟩ := h.get 0 hn
  rw [ha'] at ha
  simp at ha
  omega
theorem RowWr.touch {lo hi p q : Nat} {w w' : World} {a : Option Addr} {n : Nat} {ps : List (Int × Int)} (h : RowWr w a n ps) (hi' : In a n p q) (hd : q ≤ lo ∨ hi ≤ p) (ht : Touch lo hi w w') : RowWr w' a n ps := by
  refine ⟨h.len, fun k hk => ?_, h.rng⟩
  obtain ⟨b, off, ha, hlt, h0, h1⟩ := h.get k hk
  have hp := hi' b off ha (by omega)
  exact ⟨b, off, ha, Nat.lt_of_lt_of_le hlt ht.size, (World.cell?_of_block (a := ⟨b, off + k * 2, none⟩) (ht.block b hlt (by omega))).trans h0, (World.cell?_of_block (a := ⟨b, off + k * 2 + 1, none⟩) (ht.block b hlt (by omega))).trans h1⟩
structure OwnWr (B : Nat) (w : World) (a : Option Addr) (n cap : Nat) (ps : List (Int × Int)) : Prop where
  row : w.ownsRow B 53 2 (.slice a n cap) n (flWr ps)
  rng : UWr ps
theorem OwnWr.len {B : Nat} {w : World} {a : Option Addr} {n cap : Nat} {ps : List (Int × Int)} (h : OwnWr B w a n cap ps) : ps.length = n := by
  have := h.row.1
  rw [flWr_len] at this
  omega
theorem OwnWr.shape {B : Nat} {w : World} {a : Option Addr} {n cap : Nat} {ps : List (Int × Int)} (h : OwnWr B w a n cap ps) (hn : 0 < n) : ∃ g, a = some ⟨g, 0, none⟩ ∧ B ≤ g ∧ g < w.heap.size := by
  rcases h.row.2 with ⟨_, h0⟩ | ⟨g, cap', cur, hv, hb, hg, _⟩
  · omega
  · simp only [Value.slice.injEq] at hv
    exact ⟨g, hv.1, hb, (Array.getElem?_eq_some_iff.1 hg).1⟩
theorem OwnWr.in_ {B : Nat} {w : World} {a : Option Addr} {n cap : Nat} {ps : List (Int × Int)} (h : OwnWr B w a n cap ps) : In a n B w.heap.size := by
  intro b off ha hn
  obtain ⟨g, hg, h1, h2⟩ := h.shape hn
  rw [hg] at ha
  simp at ha
  omega
theorem OwnWr.toRow {B : Nat} {w : World} {a : Option Addr} {n cap : Nat} {ps : List (Int × Int)} (h : OwnWr B w a n cap ps) : RowWr w a n ps := by
  refine ⟨h.len, fun k hk => ?_, h.rng⟩
  obtain ⟨g, rfl, _, hg⟩ := h.shape (by omega)
  have hf := flWr_get ps k (by rw [h.len]; exact hk)
  exact ⟨g, 0, rfl, hg, by rw [Nat.zero_add, h.row.cellAt _ (by omega)]; exact hf.1, by rw [Nat.zero_add, h.row.cellAt _ (by omega)]; exact hf.2⟩
theorem OwnWr.kept {B : Nat} {w w' : World} {a : Option Addr} {n cap : Nat} {ps : List (Int × Int)} (h : OwnWr B w a n cap ps) (hb : Below w.heap.size w w') : OwnWr B w' a n cap ps := ⟨ownsRow_below h.row hb, h.rng⟩
theorem OwnWr.mono {B B' : Nat} {w : World} {a : Option Addr} {n cap : Nat} {ps : List (Int × Int)} (h : OwnWr B w a n cap ps) (hB : B' ≤ B) : OwnWr B' w a n cap ps :=
  ⟨⟨h.row.1, by rcases h.row.2 with h | ⟨g, cap, cur, hv, hb, r⟩; exact .inl h; exact .inr ⟨g, cap, cur, hv, by omega, r⟩⟩, h.rng⟩
theorem OwnWr.touch {lo hi p q B : Nat} {w w' : World} {a : Option Addr} {n cap : Nat} {ps : List (Int × Int)} (h : OwnWr B w a n cap ps) (hi' : In a n p q) (hd : q ≤ lo ∨ hi ≤ p) (ht : Touch lo hi w w') (hn : 0 < n) : OwnWr B w' a n cap ps := by
  refine ⟨⟨h.row.1, ?_⟩, h.rng⟩
  rcases h.row.2 with hn' | ⟨g, cap', cur, hv, hbb, hgg, rest⟩
  · exact .inl hn'
  · simp only [Value.slice.injEq] at hv
    obtain ⟨rfl, _, rfl⟩ := hv
    have hp := hi' g 0 rfl hn
    exact .inr ⟨g, cap, cur, rfl, hbb, (ht.block g (Array.getElem?_eq_some_iff.1 hgg).1 (by omega)).trans hgg, rest⟩
theorem OwnWr.nil {B : Nat} {w : World} {a : Option Addr} {n cap : Nat} {ps : List (Int × Int)} (h : OwnWr B w a n cap ps) : a = none → cap = 0 := by
  intro e
  subst e
  rcases h.row.2 with ⟨h0, _⟩ | ⟨g, cap', cur, hv, _⟩
  · simp only [Value.slice.injEq] at h0
    exact h0.2.2
  · simp at hv
theorem UWr.nil : UWr [] := by intro k; simp [U64]
theorem UWr.append {a b : List (Int × Int)} (h : UWr a) (k : UWr b) : UWr (a ++ b) := by
  intro i
  by_cases hi : i < a.length
  · have e : (a ++ b).getD i (0, 0) = a.getD i (0, 0) := by rw [List.getD_eq_getElem?_getD, List.getElem?_append_left hi, ← List.getD_eq_getElem?_getD]
    rw [e]; exact h i
  · have e : (a ++ b).getD i (0, 0) = b.getD (i - a.length) (0, 0) := by simp [List.getElem?_append_right (Nat.le_of_not_lt hi)]
    rw [e]; exact k _
theorem UWr.set {a : List (Int × Int)} (h : UWr a) (i : Nat) (u : Int × Int) (hu : U64 u.1 ∧ U64 u.2) : UWr (a.set i u) := by
  intro k
  by_cases e : i = k
  · subst e
    by_cases hl : i < a.length
    · have e2 : (a.set i u).getD i (0, 0) = u := by simp [hl]
      rw [e2]; exact hu
    · have e2 : (a.set i u).getD i (0, 0) = a.getD i (0, 0) := by simp [List.set_eq_of_length_le (Nat.le_of_not_lt hl)]
      rw [e2]; exact h i
  · have e2 : (a.set i u).getD k (0, 0) = a.getD k (0, 0) := by simp [List.getElem?_set_ne e]
    rw [e2]; exact h k
theorem UWr.one {u : Int × Int} (hu : U64 u.1 ∧ U64 u.2) : UWr [u] := by
  intro k
  cases k with
  | zero => exact hu
  | succ k => simp [U64]
theorem ownWr_none (B : Nat) (w : World) : OwnWr B w none 0 0 [] := ⟨World.ownsRow_nil _ _ _ _, UWr.nil⟩
theorem ownWr_appended {B : Nat} {w : World} {v : Value} {m : Nat} {xs ys : List (Int × Int)} (hx : UWr xs) (hy : UWr ys) (h : w.ownsRow B 53 2 v m (flWr xs ++ flWr ys)) : ∃ a cap, v = .slice a m cap ∧ OwnWr B w a m cap (xs ++ ys) := by
  rw [← flWr_append] at h
  rcases h.2 with ⟨rfl, rfl⟩ | ⟨g, cap, cur, rfl, _⟩
  · exact ⟨_, _, rfl, h, hx.append hy⟩
  · exact ⟨_, _, rfl, h, hx.append hy⟩
theorem Try.infoWr : (Try.prog.info? 53).map (fun i => (i.zero, i.size, i.bytes)) = some (some (.agg #[.int .u64 0, .int .u64 0]), 2, 16) := by kernel_rfl
theorem cell_oneWr (w : World) (p : Int × Int) : ∀ jj uu, (flWr [p])[jj]? = some uu → (w.alloc (.cells #[.int .u64 p.1, .int .u64 p.2] 53)).cell? ((⟨w.heap.size, 0, none⟩ : Addr).add jj) = some uu := by
  intro jj uu hju
  rw [Addr.add_lit, Nat.zero_add, cell_of_row _ w.heap.size jj _ 53 _ (heap_alloc_new w _), ← hju]
  simp [flWr]
theorem OwnWr.store {B : Nat} {w : World} {g n cap : Nat} {ps : List (Int × Int)} (h : OwnWr B w (some ⟨g, 0, none⟩) n cap ps) (k : Nat) (hk : k < n) (u : Int × Int) (hu : U64 u.1 ∧ U64 u.2) :
    OwnWr B ((w.setCell ⟨g, k * 2, none⟩ (.int .u64 u.1)).setCell ⟨g, k * 2 + 1, none⟩ (.int .u64 u.2)) (some ⟨g, 0, none⟩) n cap (ps.set k u) := by
  refine ⟨?_, h.rng.set k u hu⟩
  have := ((h.row.stored (k * 2) (.int .u64 u.1)).1.stored (k * 2 + 1) (.int .u64 u.2)).1
  rwa [flWr_set ps k u (by rw [h.len]; exact hk)] at this
def aggWr (p : Int × Int) : Value := .agg #[.int .u64 p.1, .int .u64 p.2]

def Pre_Wr (vs : List Value) (ps : List (Int × Int)) (k : Nat) : Prop := ∀ j, j < k → vs[j * 2]? = some (.int .u64 (ps.getD j (0, 0)).1) ∧ vs[j * 2 + 1]? = some (.int .u64 (ps.getD j (0, 0)).2)
theorem Pre_Wr.set {vs : List Value} {ps : List (Int × Int)} {k : Nat} (h : Pre_Wr vs ps k) (hv : k * 2 + 1 < vs.length) : Pre_Wr ((vs.set (k * 2) (.int .u64 (ps.getD k (0, 0)).1)).set (k * 2 + 1) (.int .u64 (ps.getD k (0, 0)).2)) ps (k + 1) := by
  intro j hj
  by_cases e : j = k
  · subst e
    exact ⟨by simp [List.getElem?_set]; omega, by simp [List.getElem?_set]; omega⟩
  · have := h j (by omega)
    exact ⟨by simp only [List.getElem?_set]; rw [if_neg (by omega)]; rw [if_neg (by omega)]; exact this.1, by simp only [List.getElem?_set]; rw [if_neg (by omega)]; rw [if_neg (by omega)]; exact this.2⟩
theorem Pre_Wr.all {vs : List Value} {ps : List (Int × Int)} {n : Nat} (h : Pre_Wr vs ps n) (hv : vs.length = n * 2) (hl : ps.length = n) : vs = flWr ps := by
  apply List.ext_getElem?
  intro i
  by_cases hi : i < n * 2
  · have hk : i / 2 < n := by omega
    have h1 := h (i / 2) hk
    have h2 := flWr_get ps (i / 2) (by omega)
    rcases (show i = i / 2 * 2 ∨ i = i / 2 * 2 + 1 by omega) with e | e
    · rw [e, h1.1, h2.1]
    · rw [e, h1.2, h2.2]
  · rw [List.getElem?_eq_none (by omega), List.getElem?_eq_none (by rw [flWr_len]; omega)]

theorem results_Wr {fn : Func} {t : Tmp} (h : fn.results = #[.cell t 53]) (tmps : Array Value) (g : Nat) (ht : tmps.getD t undef = .pointer (some ⟨g, 0, none⟩)) (w : World) (p : Int × Int)
    (hb : w.heap[g]? = some (.cells #[.int .u64 p.1, .int .u64 p.2] 53 (0, 0))) : (results fn tmps).run Try.prog w = .ok (aggWr p) w := by
  have d0 : w.cell? ⟨g, 0, none⟩ = some (.int .u64 p.1) := (cell_of_row _ g 0 _ 53 (0, 0) hb).trans rfl
  have d1 : w.cell? ⟨g, 1, none⟩ = some (.int .u64 p.2) := (cell_of_row _ g 1 _ 53 (0, 0) hb).trans rfl
  clear hb
  have ht' : tmps[t]?.getD undef = .pointer (some ⟨g, 0, none⟩) := by rw [← ht]; simp
  simp [results, h, go_sem, ht', d0, d1, aggWr]

theorem touch_oneWr {p q : Nat} (w : World) (g j : Nat) (u : Value) (h1 : p ≤ g) (h2 : g < q) : Touch p q w (w.setCell ⟨g, j, none⟩ u) :=
  ⟨rfl, rfl, rfl, by simp, fun k _ hk => heap_setCell_other w ⟨g, j, none⟩ k u (by simp; omega)⟩
def mkWr (k i : Nat) : Int × Int := (((k + 2 * i : Nat) : Int), ((k + 2 * i + 1 : Nat) : Int))
def marksWr (k n : Nat) : List (Int × Int) := (List.range n).map (mkWr k)
def mkdWr (ps : List (Int × Int)) (k j : Nat) : List (Int × Int) := marksWr k j ++ ps.drop j
theorem mkdWr_zero (ps : List (Int × Int)) (k : Nat) : mkdWr ps k 0 = ps := by simp [mkdWr, marksWr]
theorem mkdWr_all (ps : List (Int × Int)) (k : Nat) : mkdWr ps k ps.length = marksWr k ps.length := by simp [mkdWr]
theorem mkdWr_set (ps : List (Int × Int)) (k j : Nat) (h : j < ps.length) : (mkdWr ps k j).set j (mkWr k j) = mkdWr ps k (j + 1) := by
  unfold mkdWr
  rw [List.drop_eq_getElem_cons h, set_append_mid _ _ _ _ _ (by simp [marksWr]), show marksWr k (j + 1) = marksWr k j ++ [mkWr k j] by simp [marksWr, List.range_succ], List.append_assoc]
  rfl
theorem marksWr_get (k n i : Nat) (h : i < n) : (marksWr k n).getD i (0, 0) = mkWr k i := by simp [marksWr, h]

end Go.Proofs.Ytcgmcdelgfemkaa
