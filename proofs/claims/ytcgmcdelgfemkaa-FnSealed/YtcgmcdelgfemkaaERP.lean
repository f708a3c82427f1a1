import Derived.Test.YtcgmcdelgfemkaaTT4
import Derived.Test.YtcgmcdelgfemkaaW1W2
import Derived.Deep.RegionHeldLaw
import Derived.Deep.RegionWith
namespace Go.Proofs.Ytcgmcdelgfemkaa
open Go.RowKit

def flPu (ps : List (Int × Int × Int)) : List Value := ps.flatMap fun p => [.int .i64 p.1, .int .u64 p.2.1, .int .i64 p.2.2]
theorem flPu_cons (p : Int × Int × Int) (r : List (Int × Int × Int)) : flPu (p :: r) = Value.int .i64 p.1 :: .int .u64 p.2.1 :: .int .i64 p.2.2 :: flPu r := rfl
theorem flPu_append (a b : List (Int × Int × Int)) : flPu (a ++ b) = flPu a ++ flPu b := by simp [flPu, List.flatMap_append]
theorem flPu_len (ps : List (Int × Int × Int)) : (flPu ps).length = ps.length * 3 := by
  induction ps with
  | nil => rfl
  | cons p r ih => rw [flPu_cons]; simp [ih]; omega
theorem flPu_get (ps : List (Int × Int × Int)) : ∀ k, k < ps.length → (flPu ps)[k * 3]? = some (.int .i64 (ps.getD k (0, 0, 0)).1) ∧ (flPu ps)[k * 3 + 1]? = some (.int .u64 (ps.getD k (0, 0, 0)).2.1) ∧ (flPu ps)[k * 3 + 2]? = some (.int .i64 (ps.getD k (0, 0, 0)).2.2) := by
  induction ps with
  | nil => intro k h; simp at h
  | cons p r ih =>
    intro k h
    cases k with
    | zero => simp [flPu_cons]
    | succ k =>
      have := ih k (by simpa using h)
      rw [flPu_cons, show (k + 1) * 3 = k * 3 + 1 + 1 + 1 by omega]
      simpa using this
theorem flPu_set (ps : List (Int × Int × Int)) : ∀ k (u : Int × Int × Int), k < ps.length → (((flPu ps).set (k * 3) (.int .i64 u.1)).set (k * 3 + 1) (.int .u64 u.2.1)).set (k * 3 + 2) (.int .i64 u.2.2) = flPu (ps.set k u) := by
  induction ps with
  | nil => intro k u h; simp at h
  | cons p r ih =>
    intro k u h
    cases k with
    | zero => simp [flPu_cons]
    | succ k =>
      have := ih k u (by simpa using h)
      rw [flPu_cons, show (k + 1) * 3 = k * 3 + 1 + 1 + 1 by omega]
      simp only [List.set_cons_succ, flPu_cons]
      rw [this]
theorem flPu_one (ps : List (Int × Int × Int)) : ∀ u ∈ flPu ps, u.oneCell' = true := by
  induction ps with
  | nil => intro u hu; simp [flPu] at hu
  | cons p r ih =>
    intro u hu
    rw [flPu_cons] at hu
    simp only [List.mem_cons] at hu
    rcases hu with rfl | rfl | rfl | hu
    · rfl
    · rfl
    · rfl
    · exact ih u hu
def UPu (ps : List (Int × Int × Int)) : Prop := ∀ k, U64 (ps.getD k (0, 0, 0)).2.1
structure RowPu (w : World) (a : Option Addr) (n : Nat) (ps : List (Int × Int × Int)) : Prop where
  len : ps.length = n
  get : ∀ k, k < n → ∃ b off, a = some ⟨b, off, none⟩ ∧ b < w.heap.size ∧ w.cell? ⟨b, off + k * 3, none⟩ = some (.int .i64 (ps.getD k (0, 0, 0)).1) ∧ w.cell? ⟨b, off + k * 3 + 1, none⟩ = some (.int .u64 (ps.getD k (0, 0, 0)).2.1) ∧ w.cell? ⟨b, off + k * 3 + 2, none⟩ = some (.int .i64 (ps.getD k (0, 0, 0)).2.2)
  rng : UPu ps
theorem RowPu.kept {w w' : World} {a : Option Addr} {n : Nat} {ps : List (Int × Int × Int)} (h : RowPu w a n ps) (hb : Below w.heap.size w w') : RowPu w' a n ps := by
  refine ⟨h.len, fun k hk => ?_, h.rng⟩
  obtain ⟨b, off, ha, hlt, h0, h1, h2⟩ := h.get k hk
  exact ⟨b, off, ha, Nat.lt_of_lt_of_le hlt hb.size, (hb.cell (p := ⟨b, off + k * 3, none⟩) hlt).trans h0, (hb.cell (p := ⟨b, off + k * 3 + 1, none⟩) hlt).trans h1, (hb.cell (p := ⟨b, off + k * 3 + 2, none⟩) hlt).trans h2⟩
theorem RowPu.in_ {w : World} {a : Option Addr} {n : Nat} {ps : List (Int × Int × Int)} (h : RowPu w a n ps) : In a n 0 w.heap.size := by
  intro b off ha hn
  obtain ⟨b', off', ha', hb, _⟩ := h.get 0 hn
  rw [ha'] at ha
  simp at ha
  omega
theorem RowPu.touch {lo hi p q : Nat} {w w' : World} {a : Option Addr} {n : Nat} {ps : List (Int × Int × Int)} (h : RowPu w a n ps) (hi' : In a n p q) (hd : q ≤ lo ∨ hi ≤ p) (ht : Touch lo hi w w') : RowPu w' a n ps := by
  refine ⟨h.len, fun k hk => ?_, h.rng⟩
  obtain ⟨b, off, ha, hlt, h0, h1, h2⟩ := h.get k hk
  have hp := hi' b off ha (by omega)
  exact ⟨b, off, ha, Nat.lt_of_lt_of_le hlt ht.size, (World.cell?_of_block (a := ⟨b, off + k * 3, none⟩) (ht.block b hlt (by omega))).trans h0, (World.cell?_of_block (a := ⟨b, off + k * 3 + 1, none⟩) (ht.block b hlt (by omega))).trans h1, (World.cell?_of_block (a := ⟨b, off + k * 3 + 2, none⟩) (ht.block b hlt (by omega))).trans h2⟩
structure OwnPu (B : Nat) (w : World) (a : Option Addr) (n cap : Nat) (ps : List (Int × Int × Int)) : Prop where
  row : w.ownsRow B 48 3 (.slice a n cap) n (flPu ps)
  rng : UPu ps
theorem OwnPu.len {B : Nat} {w : World} {a : Option Addr} {n cap : Nat} {ps : List (Int × Int × Int)} (h : OwnPu B w a n cap ps) : ps.length = n := by
  have := h.row.1
  rw [flPu_len] at this
  omega
theorem OwnPu.shape {B : Nat} {w : World} {a : Option Addr} {n cap : Nat} {ps : List (Int × Int × Int)} (h : OwnPu B w a n cap ps) (hn : 0 < n) : ∃ g, a = some ⟨g, 0, none⟩ ∧ B ≤ g ∧ g < w.heap.size := by
  rcases h.row.2 with ⟨_, h0⟩ | ⟨g, cap', cur, hv, hb, hg, _⟩
  · omega
  · simp only [Value.slice.injEq] at hv
    exact ⟨g, hv.1, hb, (Array.getElem?_eq_some_iff.1 hg).1⟩
theorem OwnPu.in_ {B : Nat} {w : World} {a : Option Addr} {n cap : Nat} {ps : List (Int × Int × Int)} (h : OwnPu B w a n cap ps) : In a n B w.heap.size := by
  intro b off ha hn
  obtain ⟨g, hg, h1, h2⟩ := h.shape hn
  rw [hg] at ha
  simp at ha
  omega
theorem OwnPu.toRow {B : Nat} {w : World} {a : Option Addr} {n cap : Nat} {ps : List (Int × Int × Int)} (h : OwnPu B w a n cap ps) : RowPu w a n ps := by
  refine ⟨h.len, fun k hk => ?_, h.rng⟩
  obtain ⟨g, rfl, _, hg⟩ := h.shape (by omega)
  have hf := flPu_get ps k (by rw [h.len]; exact hk)
  exact ⟨g, 0, rfl, hg, by rw [Nat.zero_add, h.row.cellAt _ (by omega)]; exact hf.1, by rw [Nat.zero_add, h.row.cellAt _ (by omega)]; exact hf.2.1, by rw [Nat.zero_add, h.row.cellAt _ (by omega)]; exact hf.2.2⟩
theorem OwnPu.kept {B : Nat} {w w' : World} {a : Option Addr} {n cap : Nat} {ps : List (Int × Int × Int)} (h : OwnPu B w a n cap ps) (hb : Below w.heap.size w w') : OwnPu B w' a n cap ps := ⟨ownsRow_below h.row hb, h.rng⟩
theorem OwnPu.mono {B B' : Nat} {w : World} {a : Option Addr} {n cap : Nat} {ps : List (Int × Int × Int)} (h : OwnPu B w a n cap ps) (hB : B' ≤ B) : OwnPu B' w a n cap ps :=
  ⟨⟨h.row.1, by rcases h.row.2 with h | ⟨g, cap, cur, hv, hb, r⟩; exact .inl h; exact .inr ⟨g, cap, cur, hv, by omega, r⟩⟩, h.rng⟩
theorem OwnPu.touch {lo hi p q B : Nat} {w w' : World} {a : Option Addr} {n cap : Nat} {ps : List (Int × Int × Int)} (h : OwnPu B w a n cap ps) (hi' : In a n p q) (hd : q ≤ lo ∨ hi ≤ p) (ht : Touch lo hi w w') (hn : 0 < n) : OwnPu B w' a n cap ps := by
  refine ⟨⟨h.row.1, ?_⟩, h.rng⟩
  rcases h.row.2 with hn' | ⟨g, cap', cur, hv, hbb, hgg, rest⟩
  · exact .inl hn'
  · simp only [Value.slice.injEq] at hv
    obtain ⟨rfl, _, rfl⟩ := hv
    have hp := hi' g 0 rfl hn
    exact .inr ⟨g, cap, cur, rfl, hbb, (ht.block g (Array.getElem?_eq_some_iff.1 hgg).1 (by omega)).trans hgg, rest⟩
theorem OwnPu.nil {B : Nat} {w : World} {a : Option Addr} {n cap : Nat} {ps : List (Int × Int × Int)} (h : OwnPu B w a n cap ps) : a = none → cap = 0 := by
  intro e
  subst e
  rcases h.row.2 with ⟨h0, _⟩ | ⟨g, cap', cur, hv, _⟩
  · simp only [Value.slice.injEq] at h0
    exact h0.2.2
  · simp at hv
theorem UPu.nil : UPu [] := by intro k; simp [U64]
theorem UPu.append {a b : List (Int × Int × Int)} (h : UPu a) (k : UPu b) : UPu (a ++ b) := by
  intro i
  by_cases hi : i < a.length
  · have e : (a ++ b).getD i (0, 0, 0) = a.getD i (0, 0, 0) := by rw [List.getD_eq_getElem?_getD, List.getElem?_append_left hi, ← List.getD_eq_getElem?_getD]
    rw [e]; exact h i
  · have e : (a ++ b).getD i (0, 0, 0) = b.getD (i - a.length) (0, 0, 0) := by simp [List.getElem?_append_right (Nat.le_of_not_lt hi)]
    rw [e]; exact k _
theorem UPu.set {a : List (Int × Int × Int)} (h : UPu a) (i : Nat) (u : Int × Int × Int) (hu : U64 u.2.1) : UPu (a.set i u) := by
  intro k
  by_cases e : i = k
  · subst e
    by_cases hl : i < a.length
    · have e2 : (a.set i u).getD i (0, 0, 0) = u := by simp [hl]
      rw [e2]; exact hu
    · have e2 : (a.set i u).getD i (0, 0, 0) = a.getD i (0, 0, 0) := by simp [List.set_eq_of_length_le (Nat.le_of_not_lt hl)]
      rw [e2]; exact h i
  · have e2 : (a.set i u).getD k (0, 0, 0) = a.getD k (0, 0, 0) := by simp [List.getElem?_set_ne e]
    rw [e2]; exact h k
theorem UPu.one {u : Int × Int × Int} (hu : U64 u.2.1) : UPu [u] := by
  intro k
  cases k with
  | zero => exact hu
  | succ k => simp [U64]
theorem ownPu_none (B : Nat) (w : World) : OwnPu B w none 0 0 [] := ⟨World.ownsRow_nil _ _ _ _, UPu.nil⟩
theorem ownPu_appended {B : Nat} {w : World} {v : Value} {m : Nat} {xs ys : List (Int × Int × Int)} (hx : UPu xs) (hy : UPu ys) (h : w.ownsRow B 48 3 v m (flPu xs ++ flPu ys)) : ∃ a cap, v = .slice a m cap ∧ OwnPu B w a m cap (xs ++ ys) := by
  rw [← flPu_append] at h
  rcases h.2 with ⟨rfl, rfl⟩ | ⟨g, cap, cur, rfl, _⟩
  · exact ⟨_, _, rfl, h, hx.append hy⟩
  · exact ⟨_, _, rfl, h, hx.append hy⟩
theorem Try.infoPu : (Try.prog.info? 48).map (fun i => (i.zero, i.size, i.bytes)) = some (some (.agg #[.int .i64 0, .int .u64 0, .int .i64 0]), 3, 24) := by kernel_rfl
theorem cell_onePu (w : World) (p : Int × Int × Int) : ∀ jj uu, (flPu [p])[jj]? = some uu → (w.alloc (.cells #[.int .i64 p.1, .int .u64 p.2.1, .int .i64 p.2.2] 48)).cell? ((⟨w.heap.size, 0, none⟩ : Addr).add jj) = some uu := by
  intro jj uu hju
  rw [Addr.add_lit, Nat.zero_add, cell_of_row _ w.heap.size jj _ 48 _ (heap_alloc_new w _), ← hju]
  simp [flPu]
theorem OwnPu.store {B : Nat} {w : World} {g n cap : Nat} {ps : List (Int × Int × Int)} (h : OwnPu B w (some ⟨g, 0, none⟩) n cap ps) (k : Nat) (hk : k < n) (u : Int × Int × Int) (hu : U64 u.2.1) :
    OwnPu B (((w.setCell ⟨g, k * 3, none⟩ (.int .i64 u.1)).setCell ⟨g, k * 3 + 1, none⟩ (.int .u64 u.2.1)).setCell ⟨g, k * 3 + 2, none⟩ (.int .i64 u.2.2)) (some ⟨g, 0, none⟩) n cap (ps.set k u) := by
  refine ⟨?_, h.rng.set k u hu⟩
  have := (((h.row.stored (k * 3) (.int .i64 u.1)).1.stored (k * 3 + 1) (.int .u64 u.2.1)).1.stored (k * 3 + 2) (.int .i64 u.2.2)).1
  rwa [flPu_set ps k u (by rw [h.len]; exact hk)] at this
def aggPu (p : Int × Int × Int) : Value := .agg #[.int .i64 p.1, .int .u64 p.2.1, .int .i64 p.2.2]

def Pre_Pu (vs : List Value) (ps : List (Int × Int × Int)) (k : Nat) : Prop := ∀ j, j < k → vs[j * 3]? = some (.int .i64 (ps.getD j (0, 0, 0)).1) ∧ vs[j * 3 + 1]? = some (.int .u64 (ps.getD j (0, 0, 0)).2.1) ∧ vs[j * 3 + 2]? = some (.int .i64 (ps.getD j (0, 0, 0)).2.2)
theorem Pre_Pu.set {vs : List Value} {ps : List (Int × Int × Int)} {k : Nat} (h : Pre_Pu vs ps k) (hv : k * 3 + 2 < vs.length) : Pre_Pu (((vs.set (k * 3) (.int .i64 (ps.getD k (0, 0, 0)).1)).set (k * 3 + 1) (.int .u64 (ps.getD k (0, 0, 0)).2.1)).set (k * 3 + 2) (.int .i64 (ps.getD k (0, 0, 0)).2.2)) ps (k + 1) := by
  intro j hj
  by_cases e : j = k
  · subst e
    exact ⟨by simp [List.getElem?_set]; omega, by simp [List.getElem?_set]; omega, by simp [List.getElem?_set]; omega⟩
  · have := h j (by omega)
    exact ⟨by simp only [List.getElem?_set]; rw [if_neg (by omega)]; rw [if_neg (by omega)]; rw [if_neg (by omega)]; exact this.1, by simp only [List.getElem?_set]; rw [if_neg (by omega)]; rw [if_neg (by omega)]; rw [if_neg (by omega)]; exact this.2.1, by simp only [List.getElem?_set]; rw [if_neg (by omega)]; rw [if_neg (by omega)]; rw [if_neg (by omega)]; exact this.2.2⟩
theorem Pre_Pu.all {vs : List Value} {ps : List (Int × Int × Int)} {n : Nat} (h : Pre_Pu vs ps n) (hv : vs.length = n * 3) (hl : ps.length = n) : vs = flPu ps := by
  apply List.ext_getElem?
  intro i
  by_cases hi : i < n * 3
  · have hk : i / 3 < n := by omega
    have h1 := h (i / 3) hk
    have h2 := flPu_get ps (i / 3) (by omega)
    rcases (show i = i / 3 * 3 ∨ i = i / 3 * 3 + 1 ∨ i = i / 3 * 3 + 2 by omega) with e | e | e
    · rw [e, h1.1, h2.1]
    · rw [e, h1.2.1, h2.2.1]
    · rw [e, h1.2.2, h2.2.2]
  · rw [List.getElem?_eq_none (by omega), List.getElem?_eq_none (by rw [flPu_len]; omega)]

theorem results_Pu {fn : Func} {t : Tmp} (h : fn.results = #[.cell t 48]) (tmps : Array Value) (g : Nat) (ht : tmps.getD t undef = .pointer (some ⟨g, 0, none⟩)) (w : World) (p : Int × Int × Int)
    (hb : w.heap[g]? = some (.cells #[.int .i64 p.1, .int .u64 p.2.1, .int .i64 p.2.2] 48 (0, 0))) : (results fn tmps).run Try.prog w = .ok (aggPu p) w := by
  have d0 : w.cell? ⟨g, 0, none⟩ = some (.int .i64 p.1) := (cell_of_row _ g 0 _ 48 (0, 0) hb).trans rfl
  have d1 : w.cell? ⟨g, 1, none⟩ = some (.int .u64 p.2.1) := (cell_of_row _ g 1 _ 48 (0, 0) hb).trans rfl
  have d2 : w.cell? ⟨g, 2, none⟩ = some (.int .i64 p.2.2) := (cell_of_row _ g 2 _ 48 (0, 0) hb).trans rfl
  clear hb
  have ht' : tmps[t]?.getD undef = .pointer (some ⟨g, 0, none⟩) := by rw [← ht]; simp
  simp [results, h, go_sem, ht', d0, d1, d2, aggPu]

theorem touch_onePu {p q : Nat} (w : World) (g j : Nat) (u : Value) (h1 : p ≤ g) (h2 : g < q) : Touch p q w (w.setCell ⟨g, j, none⟩ u) :=
  ⟨rfl, rfl, rfl, by simp, fun k _ hk => heap_setCell_other w ⟨g, j, none⟩ k u (by simp; omega)⟩
def mkPu (k i : Nat) : Int × Int × Int := (((k + 3 * i : Nat) : Int), ((k + 3 * i + 1 : Nat) : Int), ((k + 3 * i + 2 : Nat) : Int))
def marksPu (k n : Nat) : List (Int × Int × Int) := (List.range n).map (mkPu k)
def mkdPu (ps : List (Int × Int × Int)) (k j : Nat) : List (Int × Int × Int) := marksPu k j ++ ps.drop j
theorem mkdPu_zero (ps : List (Int × Int × Int)) (k : Nat) : mkdPu ps k 0 = ps := by simp [mkdPu, marksPu]
theorem mkdPu_all (ps : List (Int × Int × Int)) (k : Nat) : mkdPu ps k ps.length = marksPu k ps.length := by simp [mkdPu]
theorem mkdPu_set (ps : List (Int × Int × Int)) (k j : Nat) (h : j < ps.length) : (mkdPu ps k j).set j (mkPu k j) = mkdPu ps k (j + 1) := by
  unfold mkdPu
  rw [List.drop_eq_getElem_cons h, set_append_mid _ _ _ _ _ (by simp [marksPu]), show marksPu k (j + 1) = marksPu k j ++ [mkPu k j] by simp [marksPu, List.range_succ], List.append_assoc]
  rfl
theorem marksPu_get (k n i : Nat) (h : i < n) : (marksPu k n).getD i (0, 0, 0) = mkPu k i := by simp [marksPu, h]

end Go.Proofs.Ytcgmcdelgfemkaa
