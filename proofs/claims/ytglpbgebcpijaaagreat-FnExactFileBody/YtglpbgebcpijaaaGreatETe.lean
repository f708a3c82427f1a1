import Derived.Test.YtglpbgebcpijaaaGreatTT4
import Derived.Test.YtglpbgebcpijaaaGreatW2
import Derived.Deep.RegionHeldLaw
import Derived.Deep.RegionWith
namespace Go.Proofs.YtglpbgebcpijaaaGreat
open Go.RowKit

def flTe (ps : List (Int × Int)) : List Value := ps.flatMap fun p => [.int .u64 p.1, .int .i64 p.2]
theorem flTe_cons (p : Int × Int) (r : List (Int × Int)) : flTe (p :: r) = Value.int .u64 p.1 :: .int .i64 p.2 :: flTe r := rfl
theorem flTe_append (a b : List (Int × Int)) : flTe (a ++ b) = flTe a ++ flTe b := by simp [flTe, List.flatMap_append]
theorem flTe_len (ps : List (Int × Int)) : (flTe ps).length = ps.length * 2 := by
  induction ps with
  | nil => rfl
  | cons p r ih => rw [flTe_cons]; simp [ih]; omega
theorem flTe_get (ps : List (Int × Int)) : ∀ k, k < ps.length → (flTe ps)[k * 2]? = some (.int .u64 (ps.getD k (0, 0)).1) ∧ (flTe ps)[k * 2 + 1]? = some (.int .i64 (ps.getD k (0, 0)).2) := by
  induction ps with
  | nil => intro k h; simp at h
  | cons p r ih =>
    intro k h
    cases k with
    | zero => simp [flTe_cons]
    | succ k =>
      have := ih k (by simpa using h)
      rw [flTe_cons, show (k + 1) * 2 = k * 2 + 1 + 1 by omega]
      simpa using this
theorem flTe_set (ps : List (Int × Int)) : ∀ k (u : Int × Int), k < ps.length → ((flTe ps).set (k * 2) (.int .u64 u.1)).set (k * 2 + 1) (.int .i64 u.2) = flTe (ps.set k u) := by
  induction ps with
  | nil => intro k u h; simp at h
  | cons p r ih =>
    intro k u h
    cases k with
    | zero => simp [flTe_cons]
    | succ k =>
      have := ih k u (by simpa using h)
      rw [flTe_cons, show (k + 1) * 2 = k * 2 + 1 + 1 by omega]
      simp only [List.set_cons_succ, flTe_cons]
      rw [this]
theorem flTe_one (ps : List (Int × Int)) : ∀ u ∈ flTe ps, u.oneCell' = true := by
  induction ps with
  | nil => intro u hu; simp [flTe] at hu
  | cons p r ih =>
    intro u hu
    rw [flTe_cons] at hu
    simp only [List.mem_cons] at hu
    rcases hu with rfl | rfl | hu
    · rfl
    · rfl
    · exact ih u hu
def UTe (ps : List (Int × Int)) : Prop := ∀ k, U64 (ps.getD k (0, 0)).1
structure RowTe (w : World) (a : Option Addr) (n : Nat) (ps : List (Int × Int)) : Prop where
  len : ps.length = n
  get : ∀ k, k < n → ∃ b off, a = some ⟨b, off, none⟩ ∧ b < w.heap.size ∧ w.cell? ⟨b, off + k * 2, none⟩ = some (.int .u64 (ps.getD k (0, 0)).1) ∧ w.cell? ⟨b, off + k * 2 + 1, none⟩ = some (.int .i64 (ps.getD k (0, 0)).2)
  rng : UTe ps
theorem RowTe.kept {w w' : World} {a : Option Addr} {n : Nat} {ps : List (Int × Int)} (h : RowTe w a n ps) (hb : Below w.heap.size w w') : RowTe w' a n ps := by
  refine ⟨h.len, fun k hk => ?_, h.rng⟩
  obtain ⟨b, off, ha, hlt, h0, h1⟩ := h.get k hk
  exact ⟨b, off, ha, Nat.lt_of_lt_of_le hlt hb.size, (hb.cell (p := ⟨b, off + k * 2, none⟩) hlt).trans h0, (hb.cell (p := ⟨b, off + k * 2 + 1, none⟩) hlt).trans h1⟩
theorem RowTe.in_ {w : World} {a : Option Addr} {n : Nat} {ps : List (Int × Int)} (h : RowTe w a n ps) : In a n 0 w.heap.size := by
  intro b off ha hn
  obtain ⟨b', off', ha', hb, _⟩ := h.get 0 hn
  rw [ha'] at ha
  simp at ha
  omega
theorem RowTe.touch {lo hi p q : Nat} {w w' : World} {a : Option Addr} {n : Nat} {ps : List (Int × Int)} (h : RowTe w a n ps) (hi' : In a n p q) (hd : q ≤ lo ∨ hi ≤ p) (ht : Touch lo hi w w') : RowTe w' a n ps := by
  refine ⟨h.len, fun k hk => ?_, h.rng⟩
  obtain ⟨b, off, ha, hlt, h0, h1⟩ := h.get k hk
  have hp := hi' b off ha (by omega)
  exact ⟨b, off, ha, Nat.lt_of_lt_of_le hlt ht.size, (World.cell?_of_block (a := ⟨b, off + k * 2, none⟩) (ht.block b hlt (by omega))).trans h0, (World.cell?_of_block (a := ⟨b, off + k * 2 + 1, none⟩) (ht.block b hlt (by omega))).trans h1⟩
structure OwnTe (B : Nat) (w : World) (a : Option Addr) (n cap : Nat) (ps : List (Int × Int)) : Prop where
  row : w.ownsRow B 91 2 (.slice a n cap) n (flTe ps)
  rng : UTe ps
theorem OwnTe.len {B : Nat} {w : World} {a : Option Addr} {n cap : Nat} {ps : List (Int × Int)} (h : OwnTe B w a n cap ps) : ps.length = n := by
  have := h.row.1
  rw [flTe_len] at this
  omega
theorem OwnTe.shape {B : Nat} {w : World} {a : Option Addr} {n cap : Nat} {ps : List (Int × Int)} (h : OwnTe B w a n cap ps) (hn : 0 < n) : ∃ g, a = some ⟨g, 0, none⟩ ∧ B ≤ g ∧ g < w.heap.size := by
  rcases h.row.2 with ⟨_, h0⟩ | ⟨g, cap', cur, hv, hb, hg, _⟩
  · omega
  · simp only [Value.slice.injEq] at hv
    exact ⟨g, hv.1, hb, (Array.getElem?_eq_some_iff.1 hg).1⟩
theorem OwnTe.in_ {B : Nat} {w : World} {a : Option Addr} {n cap : Nat} {ps : List (Int × Int)} (h : OwnTe B w a n cap ps) : In a n B w.heap.size := by
  intro b off ha hn
  obtain ⟨g, hg, h1, h2⟩ := h.shape hn
  rw [hg] at ha
  simp at ha
  omega
theorem OwnTe.toRow {B : Nat} {w : World} {a : Option Addr} {n cap : Nat} {ps : List (Int × Int)} (h : OwnTe B w a n cap ps) : RowTe w a n ps := by
  refine ⟨h.len, fun k hk => ?_, h.rng⟩
  obtain ⟨g, rfl, _, hg⟩ := h.shape (by omega)
  have hf := flTe_get ps k (by rw [h.len]; exact hk)
  exact ⟨g, 0, rfl, hg, by rw [Nat.zero_add, h.row.cellAt _ (by omega)]; exact hf.1, by rw [Nat.zero_add, h.row.cellAt _ (by omega)]; exact hf.2⟩
theorem OwnTe.kept {B : Nat} {w w' : World} {a : Option Addr} {n cap : Nat} {ps : List (Int × Int)} (h : OwnTe B w a n cap ps) (hb : Below w.heap.size w w') : OwnTe B w' a n cap ps := ⟨ownsRow_below h.row hb, h.rng⟩
theorem OwnTe.mono {B B' : Nat} {w : World} {a : Option Addr} {n cap : Nat} {ps : List (Int × Int)} (h : OwnTe B w a n cap ps) (hB : B' ≤ B) : OwnTe B' w a n cap ps :=
  ⟨⟨h.row.1, by rcases h.row.2 with h | ⟨g, cap, cur, hv, hb, r⟩; exact .inl h; exact .inr ⟨g, cap, cur, hv, by omega, r⟩⟩, h.rng⟩
theorem OwnTe.touch {lo hi p q B : Nat} {w w' : World} {a : Option Addr} {n cap : Nat} {ps : List (Int × Int)} (h : OwnTe B w a n cap ps) (hi' : In a n p q) (hd : q ≤ lo ∨ hi ≤ p) (ht : Touch lo hi w w') (hn : 0 < n) : OwnTe B w' a n cap ps := by
  refine ⟨⟨h.row.1, ?_⟩, h.rng⟩
  rcases h.row.2 with hn' | ⟨g, cap', cur, hv, hbb, hgg, rest⟩
  · exact .inl hn'
  · simp only [Value.slice.injEq] at hv
    obtain ⟨rfl, _, rfl⟩ := hv
    have hp := hi' g 0 rfl hn
    exact .inr ⟨g, cap, cur, rfl, hbb, (ht.block g (Array.getElem?_eq_some_iff.1 hgg).1 (by omega)).trans hgg, rest⟩
theorem OwnTe.nil {B : Nat} {w : World} {a : Option Addr} {n cap : Nat} {ps : List (Int × Int)} (h : OwnTe B w a n cap ps) : a = none → cap = 0 := by
  intro e
  subst e
  rcases h.row.2 with ⟨h0, _⟩ | ⟨g, cap', cur, hv, _⟩
  · simp only [Value.slice.injEq] at h0
    exact h0.2.2
  · simp at hv
theorem UTe.nil : UTe [] := by intro k; simp [U64]
theorem UTe.append {a b : List (Int × Int)} (h : UTe a) (k : UTe b) : UTe (a ++ b) := by
  intro i
  by_cases hi : i < a.length
  · have e : (a ++ b).getD i (0, 0) = a.getD i (0, 0) := by rw [List.getD_eq_getElem?_getD, List.getElem?_append_left hi, ← List.getD_eq_getElem?_getD]
    rw [e]; exact h i
  · have e : (a ++ b).getD i (0, 0) = b.getD (i - a.length) (0, 0) := by simp [List.getElem?_append_right (Nat.le_of_not_lt hi)]
    rw [e]; exact k _
theorem UTe.set {a : List (Int × Int)} (h : UTe a) (i : Nat) (u : Int × Int) (hu : U64 u.1) : UTe (a.set i u) := by
  intro k
  by_cases e : i = k
  · subst e
    by_cases hl : i < a.length
    · have e2 : (a.set i u).getD i (0, 0) = u := by simp [hl]
      rw [e2]; exact hu
    · have e2 : (a.set i u).getD i (0, 0) = a.getD i (0, 0) := by simp [List.set_eq_of_length_le (Nat.le_of_not_lt hl)]
      rw [e2]; exact h i
  · have e2 : (a.set i u).getD k (0, 0) = a.getD k (0, 0) := by simp [List.getElem?_set_ne e]
    rw [e2]; exact h k
theorem UTe.one {u : Int × Int} (hu : U64 u.1) : UTe [u] := by
  intro k
  cases k with
  | zero => exact hu
  | succ k => simp [U64]
theorem ownTe_none (B : Nat) (w : World) : OwnTe B w none 0 0 [] := ⟨World.ownsRow_nil _ _ _ _, UTe.nil⟩
theorem ownTe_appended {B : Nat} {w : World} {v : Value} {m : Nat} {xs ys : List (Int × Int)} (hx : UTe xs) (hy : UTe ys) (h : w.ownsRow B 91 2 v m (flTe xs ++ flTe ys)) : ∃ a cap, v = .slice a m cap ∧ OwnTe B w a m cap (xs ++ ys) := by
  rw [← flTe_append] at h
  rcases h.2 with ⟨rfl, rfl⟩ | ⟨g, cap, cur, rfl, _⟩
  · exact ⟨_, _, rfl, h, hx.append hy⟩
  · exact ⟨_, _, rfl, h, hx.append hy⟩
theorem Tryz.infoTe : (Tryz.prog.info? 91).map (fun i => (i.zero, i.size, i.bytes)) = some (some (.agg #[.int .u64 0, .int .i64 0]), 2, 16) := by kernel_rfl
theorem cell_oneTe (w : World) (p : Int × Int) : ∀ jj uu, (flTe [p])[jj]? = some uu → (w.alloc (.cells #[.int .u64 p.1, .int .i64 p.2] 91)).cell? ((⟨w.heap.size, 0, none⟩ : Addr).add jj) = some uu := by
  intro jj uu hju
  rw [Addr.add_lit, Nat.zero_add, cell_of_row _ w.heap.size jj _ 91 _ (heap_alloc_new w _), ← hju]
  simp [flTe]
theorem OwnTe.store {B : Nat} {w : World} {g n cap : Nat} {ps : List (Int × Int)} (h : OwnTe B w (some ⟨g, 0, none⟩) n cap ps) (k : Nat) (hk : k < n) (u : Int × Int) (hu : U64 u.1) :
    OwnTe B ((w.setCell ⟨g, k * 2, none⟩ (.int .u64 u.1)).setCell ⟨g, k * 2 + 1, none⟩ (.int .i64 u.2)) (some ⟨g, 0, none⟩) n cap (ps.set k u) := by
  refine ⟨?_, h.rng.set k u hu⟩
  have := ((h.row.stored (k * 2) (.int .u64 u.1)).1.stored (k * 2 + 1) (.int .i64 u.2)).1
  rwa [flTe_set ps k u (by rw [h.len]; exact hk)] at this
def aggTe (p : Int × Int) : Value := .agg #[.int .u64 p.1, .int .i64 p.2]

set_option maxRecDepth 10000 in
set_option maxHeartbeats 400000 in
theorem eqTe_same (p : Int × Int) (w : World) :
    Calls Tryz.prog 99 #[aggTe p, aggTe p] w fun e w' => e = .returned (.bool true) ∧ Below w.heap.size w w' := by
  obtain ⟨a0, a1⟩ := p
  unfold aggTe
  have z0 : (a0 != a0) = false := by simp
  have z1 : (a1 != a1) = false := by simp
  go_enter Tryz.func99, Tryz.ntmps99
  go_wp2
  go_ret
  exact ⟨rfl, ((Below.refl _ _).alloc (Nat.le_refl _) _).alloc (by simp) _⟩

set_option maxRecDepth 10000 in
set_option maxHeartbeats 2000000 in
theorem eqTeS_same (a b : Option Addr) (n ca cb : Nat) (ps : List (Int × Int)) (w : World) (hx : RowTe w a n ps) (hy : RowTe w b n ps) (hn : n ≤ 9223372036854775807) :
    Calls Tryz.prog 71 #[.slice a n ca, .slice b n cb] w fun e w' => e = .returned (.bool true) ∧ Below w.heap.size w w' := by
  have HX : Hid (RowTe w a n ps) := hx
  have HY : Hid (RowTe w b n ps) := hy
  clear hx hy
  have zn : ((n : Int) != (n : Int)) = false := by simp
  go_enter Tryz.func71, Tryz.ntmps71
  go_wp2
  go_loopw [5] (fun i wr => ∃ k : Nat, k ≤ n ∧ i = .int .i64 k ∧ Below w.heap.size w wr) (fun i _ => n - (intOf i).toNat)
  case atStart => exact ⟨0, Nat.zero_le _, rfl, Below.refl _ _⟩
  case round =>
    obtain ⟨k, hk, rfl, hbr⟩ := hrel
    by_cases hlt : k < n
    · obtain ⟨b1, o1, rfl, hl1, x0, x1⟩ := (HX.out.kept hbr).get k hlt
      obtain ⟨b2, o2, rfl, hl2, y0, y1⟩ := (HY.out.kept hbr).get k hlt
      obtain ⟨q, hq⟩ : ∃ q, q = ps.getD k (0, 0) := ⟨_, rfl⟩
      rw [← hq] at x0 x1 y0 y1
      clear hq
      have hlti : (k : Int) < (n : Int) := by omega
      go_wp2_with fail
      have EQ : Hid (Calls Tryz.prog 99 #[aggTe q, aggTe q] wr.drew fun e w' => e = .returned (.bool true) ∧ Below wr.drew.heap.size wr.drew w') := eqTe_same q wr.drew
      unfold aggTe at EQ
      have e0 : wr.drew.cell? ⟨b1, o1 + k * 2, none⟩ = some (.int .u64 q.1) := x0
      go_region_with ((go_at_call 99; refine Calls.mono EQ.out ?_; rintro e w2 ⟨rfl, hb2⟩))
      all_goals
        go_wp2
        go_roundw
        case rel => exact ⟨k + 1, by omega, by go_num, keepT hbr.drew hb2⟩
        case measure => simp [intOf]; omega
    · go_wp2
      go_ret
      exact ⟨rfl, hbr⟩

def Pre_Te (vs : List Value) (ps : List (Int × Int)) (k : Nat) : Prop := ∀ j, j < k → vs[j * 2]? = some (.int .u64 (ps.getD j (0, 0)).1) ∧ vs[j * 2 + 1]? = some (.int .i64 (ps.getD j (0, 0)).2)
theorem Pre_Te.set {vs : List Value} {ps : List (Int × Int)} {k : Nat} (h : Pre_Te vs ps k) (hv : k * 2 + 1 < vs.length) : Pre_Te ((vs.set (k * 2) (.int .u64 (ps.getD k (0, 0)).1)).set (k * 2 + 1) (.int .i64 (ps.getD k (0, 0)).2)) ps (k + 1) := by
  intro j hj
  by_cases e : j = k
  · subst e
    exact ⟨by simp [List.getElem?_set]; omega, by simp [List.getElem?_set]; omega⟩
  · have := h j (by omega)
    exact ⟨by simp only [List.getElem?_set]; rw [if_neg (by omega)]; rw [if_neg (by omega)]; exact this.1, by simp only [List.getElem?_set]; rw [if_neg (by omega)]; rw [if_neg (by omega)]; exact this.2⟩
theorem Pre_Te.all {vs : List Value} {ps : List (Int × Int)} {n : Nat} (h : Pre_Te vs ps n) (hv : vs.length = n * 2) (hl : ps.length = n) : vs = flTe ps := by
  apply List.ext_getElem?
  intro i
  by_cases hi : i < n * 2
  · have hk : i / 2 < n := by omega
    have h1 := h (i / 2) hk
    have h2 := flTe_get ps (i / 2) (by omega)
    rcases (show i = i / 2 * 2 ∨ i = i / 2 * 2 + 1 by omega) with e | e
    · rw [e, h1.1, h2.1]
    · rw [e, h1.2, h2.2]
  · rw [List.getElem?_eq_none (by omega), List.getElem?_eq_none (by rw [flTe_len]; omega)]

theorem results_Te {fn : Func} {t : Tmp} (h : fn.results = #[.cell t 91]) (tmps : Array Value) (g : Nat) (ht : tmps.getD t undef = .pointer (some ⟨g, 0, none⟩)) (w : World) (p : Int × Int)
    (hb : w.heap[g]? = some (.cells #[.int .u64 p.1, .int .i64 p.2] 91 (0, 0))) : (results fn tmps).run Tryz.prog w = .ok (aggTe p) w := by
  have d0 : w.cell? ⟨g, 0, none⟩ = some (.int .u64 p.1) := (cell_of_row _ g 0 _ 91 (0, 0) hb).trans rfl
  have d1 : w.cell? ⟨g, 1, none⟩ = some (.int .i64 p.2) := (cell_of_row _ g 1 _ 91 (0, 0) hb).trans rfl
  clear hb
  have ht' : tmps[t]?.getD undef = .pointer (some ⟨g, 0, none⟩) := by rw [← ht]; simp
  simp [results, h, go_sem, ht', d0, d1, aggTe]

set_option maxRecDepth 10000 in
set_option maxHeartbeats 1000000 in
theorem toTe_any (p : Int × Int) (w : World) :
    Calls Tryz.prog 96 #[aggTe p] w fun e w' => e = .returned (aggTe p) ∧ Below w.heap.size w w' := by
  have s1 : (w.alloc (.cells #[.int .u64 p.1, .int .i64 p.2] 162)).heap.size = w.heap.size + 1 := by simp
  have HB1 : Hid (((((w.alloc (.cells #[.int .u64 p.1, .int .i64 p.2] 162)).alloc (.cells #[.int .u64 p.1, .int .i64 p.2] 91)).alloc (.cells #[.int .u64 p.1, .int .i64 p.2] 91))).heap[w.heap.size + 1]? = some (.cells #[.int .u64 p.1, .int .i64 p.2] 91)) := by
    show _ = _
    exact (heap_alloc_old _ _ (by simp)).trans (by rw [← s1]; exact heap_alloc_new _ _)
  clear s1
  rw [aggTe]
  go_enter Tryz.func96, Tryz.ntmps96
  go_wp2
  try simp only [Exit.inBlock, Exit.then]
  exact bodyPost_ret (results_Te rfl _ (w.heap.size + 1) rfl _ p HB1.out) rfl ⟨rfl, (((Below.refl _ _).alloc (Nat.le_refl _) _).alloc (by simp) _).alloc (by simp; omega) _⟩

set_option maxRecDepth 10000 in
set_option maxHeartbeats 2000000 in
theorem toTeS_any (a : Option Addr) (n c : Nat) (ps : List (Int × Int)) (w : World) (h : RowTe w a n ps) (hn : n ≤ 1048576) :
    Calls Tryz.prog 65 #[.slice a n c] w fun e w' => ∃ ar, e = .returned (.slice ar n n) ∧ OwnTe w.heap.size w' ar n n ps ∧ Below w.heap.size w w' := by
  obtain ⟨i0, hi, hz0, hz1, hz2⟩ := info_parts Tryz.infoTe
  have H0 : Hid (RowTe w a n ps) := h
  have HL : Hid (ps.length = n) := h.len
  have HR : Hid (UTe ps) := h.rng
  clear h
  go_enter Tryz.func65, Tryz.ntmps65
  go_wp2_with (first | (at_make; refine wpList_make_full _ rfl _ _ 44 rfl w.heap.size 91 i0 _ 2 Tryz.underlying44 hi hz0 hz1 _ _ _ _ n rfl rfl rfl rfl (by rw [hz2]; omega) (by unfold maxLen; omega) (by exact Nat.le_refl _) ?_; intro w2 hown hgrow))
  have hbl : Below w.heap.size w w2 := (Below.refl _ _).grown hgrow (Nat.le_refl _) (by simp)
  clear hgrow hi hz0 hz1 hz2
  go_loopw [4] (fun i wr => ∃ k : Nat, k ≤ n ∧ i = .int .i64 k ∧ (∃ vs, wr.ownsRow w.heap.size 91 2 (.slice (some ⟨w.heap.size, 0, none⟩) n n) n vs ∧ Pre_Te vs ps k) ∧ Below w.heap.size w wr) (fun i _ => n - (intOf i).toNat)
  case atStart => exact ⟨0, Nat.zero_le _, rfl, ⟨_, hown, fun j hj => absurd hj (Nat.not_lt_zero _)⟩, hbl⟩
  case round =>
    obtain ⟨k, hk, rfl, ⟨vs, hor, hpre⟩, hbr⟩ := hrel
    by_cases hkn : k < n
    · obtain ⟨b, off, rfl, hlb, x0, x1⟩ := (H0.out.kept hbr).get k hkn
      obtain ⟨p, hp⟩ : ∃ p, p = ps.getD k (0, 0) := ⟨_, rfl⟩
      rw [← hp] at x0 x1
      have HP : Hid (ps.getD k (0, 0) = p) := hp.symm
      have hkni : (k : Int) < (n : Int) := by omega
      have HPRE : Hid (Pre_Te vs ps k) := hpre
      have HOR : Hid (wr.ownsRow w.heap.size 91 2 (.slice (some ⟨w.heap.size, 0, none⟩) n n) n vs) := hor
      have hws := hbr.size
      have TO := fun W => toTe_any p W
      unfold aggTe at TO
      clear hp hpre hor hown hbl
      go_wp2_with fail
      refine (TO _).mono ?_
      rintro e w3 ⟨rfl, hb3⟩
      have hor3 := ownsRow_below HOR.out hb3
      have hvl : vs.length = n * 2 := hor3.1
      have f0 : w3.frozen? ⟨w.heap.size, k * 2, none⟩ = false := hor3.frozenAt _
      have f1 : w3.frozen? ⟨w.heap.size, k * 2 + 1, none⟩ = false := hor3.frozenAt _
      obtain ⟨y0, hy0⟩ : ∃ y, w3.cell? ⟨w.heap.size, k * 2, none⟩ = some y := ⟨_, (hor3.cellAt _ (by omega)).trans (List.getElem?_eq_getElem (by omega))⟩
      obtain ⟨y1, hy1⟩ : ∃ y, w3.cell? ⟨w.heap.size, k * 2 + 1, none⟩ = some y := ⟨_, (hor3.cellAt _ (by omega)).trans (List.getElem?_eq_getElem (by omega))⟩
      have hP := HPRE.out.set (by omega)
      rw [HP.out] at hP
      have hO := ((hor3.stored (k * 2) (.int .u64 p.1)).1.stored (k * 2 + 1) (.int .i64 p.2)).1
      have hB : Below w.heap.size w ((w3.setCell ⟨w.heap.size, k * 2, none⟩ (.int .u64 p.1)).setCell ⟨w.heap.size, k * 2 + 1, none⟩ (.int .i64 p.2)) := (((keepT hbr hb3).setCell (Nat.le_refl _) _).setCell (Nat.le_refl _) _)
      have FIN : Hid (_ ∧ _ ∧ _) := ⟨hO, hP, hB⟩
      clear hP hO hB hor3 hb3 hbr HPRE HOR TO
      go_wp2
      go_roundw
      case rel => exact ⟨k + 1, by omega, by go_num, ⟨_, FIN.out.1, FIN.out.2.1⟩, FIN.out.2.2⟩
      case measure => simp [intOf]; omega
    · obtain rfl : k = n := by omega
      have hvs := hpre.all hor.1 HL.out
      rw [hvs] at hor
      have FIN : Hid (OwnTe w.heap.size wr (some ⟨w.heap.size, 0, none⟩) k k ps ∧ Below w.heap.size w wr) := ⟨⟨hor, HR.out⟩, hbr⟩
      clear hor hpre hbr hvs hown hbl
      go_wp2
      go_ret
      exact ⟨_, rfl, FIN.out.1, FIN.out.2⟩

set_option maxRecDepth 10000 in
set_option maxHeartbeats 1000000 in
theorem szTeS_any (a : Option Addr) (n c : Nat) (l : Int) (w : World) (hn : n ≤ 9223372036854775807) (h0 : 0 ≤ l) (h1 : l ≤ 1048576) :
    Calls Tryz.prog 50 #[.slice a n c, .int .i64 l] w fun e w' => e = .returned (.int .i64 (if l < n then -1 else l - n)) ∧ w' = w := by
  by_cases hlt : l < n
  · have h' : l - (n : Int) < 0 := by omega
    rw [if_pos hlt]
    go_enter Tryz.func50, Tryz.ntmps50
    go_wp2
    go_ret
    exact ⟨rfl, rfl⟩
  · have h' : 0 ≤ l - (n : Int) := by omega
    rw [if_neg hlt]
    go_enter Tryz.func50, Tryz.ntmps50
    go_wp2
    go_ret
    exact ⟨rfl, rfl⟩

theorem touch_oneTe {p q : Nat} (w : World) (g j : Nat) (u : Value) (h1 : p ≤ g) (h2 : g < q) : Touch p q w (w.setCell ⟨g, j, none⟩ u) :=
  ⟨rfl, rfl, rfl, by simp, fun k _ hk => heap_setCell_other w ⟨g, j, none⟩ k u (by simp; omega)⟩
def mkTe (k i : Nat) : Int × Int := (((k + 2 * i : Nat) : Int), ((k + 2 * i + 1 : Nat) : Int))
def marksTe (k n : Nat) : List (Int × Int) := (List.range n).map (mkTe k)
def mkdTe (ps : List (Int × Int)) (k j : Nat) : List (Int × Int) := marksTe k j ++ ps.drop j
theorem mkdTe_zero (ps : List (Int × Int)) (k : Nat) : mkdTe ps k 0 = ps := by simp [mkdTe, marksTe]
theorem mkdTe_all (ps : List (Int × Int)) (k : Nat) : mkdTe ps k ps.length = marksTe k ps.length := by simp [mkdTe]
theorem mkdTe_set (ps : List (Int × Int)) (k j : Nat) (h : j < ps.length) : (mkdTe ps k j).set j (mkTe k j) = mkdTe ps k (j + 1) := by
  unfold mkdTe
  rw [List.drop_eq_getElem_cons h, set_append_mid _ _ _ _ _ (by simp [marksTe]), show marksTe k (j + 1) = marksTe k j ++ [mkTe k j] by simp [marksTe, List.range_succ], List.append_assoc]
  rfl
theorem marksTe_get (k n i : Nat) (h : i < n) : (marksTe k n).getD i (0, 0) = mkTe k i := by simp [marksTe, h]

set_option maxRecDepth 10000 in
set_option maxHeartbeats 2000000 in
theorem markTeS_any (B : Nat) (a : Option Addr) (n cap k : Nat) (ps : List (Int × Int)) (w : World) (h : OwnTe B w a n cap ps) (hn : n ≤ 10000000) (hk : k ≤ 10000000) :
    Calls Tryz.prog 74 #[.slice a n cap, .int .i64 k] w fun e w' => e = .returned (.int .i64 (k + 2 * n : Nat)) ∧ OwnTe B w' a n cap (marksTe k n) ∧ ∀ p q, In a n p q → Touch p q w w' := by
  have HL : Hid (ps.length = n) := h.len
  have HO : Hid (OwnTe B w a n cap (mkdTe ps k 0)) := by show OwnTe _ _ _ _ _ _; rw [mkdTe_zero]; exact h
  clear h
  go_enter Tryz.func74, Tryz.ntmps74
  go_wp2
  go_loopw [1, 5] (fun kk i wr => ∃ j : Nat, j ≤ n ∧ i = .int .i64 j ∧ kk = .int .i64 (k + 2 * j : Nat) ∧ OwnTe B wr a n cap (mkdTe ps k j) ∧ (∀ p q, In a n p q → Touch p q w wr)) (fun _ i _ => n - (intOf i).toNat)
  case atStart => exact ⟨0, Nat.zero_le _, rfl, rfl, HO.out, fun p q _ => Touch.of_below (Below.refl _ _)⟩
  case round =>
    obtain ⟨j, hj, rfl, rfl, hor, htr⟩ := hrel
    by_cases hlt : j < n
    · obtain ⟨g, rfl, hg0, hg1⟩ := hor.shape (by omega)
      have hfl : (flTe (mkdTe ps k j)).length = n * 2 := hor.row.1
      have f0 : wr.frozen? ⟨g, j * 2, none⟩ = false := hor.row.frozenAt _
      have f1 : wr.frozen? ⟨g, j * 2 + 1, none⟩ = false := hor.row.frozenAt _
      obtain ⟨y0, hy0⟩ : ∃ y, wr.cell? ⟨g, j * 2, none⟩ = some y := ⟨_, (hor.row.cellAt _ (by omega)).trans (List.getElem?_eq_getElem (by omega))⟩
      obtain ⟨y1, hy1⟩ : ∃ y, wr.cell? ⟨g, j * 2 + 1, none⟩ = some y := ⟨_, (hor.row.cellAt _ (by omega)).trans (List.getElem?_eq_getElem (by omega))⟩
      have hs := hor.store j hlt (mkTe k j) (⟨by simp [mkTe]; omega, by simp [mkTe]; omega⟩)
      rw [mkdTe_set ps k j (by rw [HL.out]; exact hlt)] at hs
      have e0 : (mkTe k j).1 = (k : Int) + 2 * (j : Int) := by simp [mkTe]
      have e1 : (mkTe k j).2 = (k : Int) + 2 * (j : Int) + 1 := by simp [mkTe]
      rw [e0, e1] at hs
      have ht : ∀ p q, In (some ⟨g, 0, none⟩) n p q → Touch p q w ((wr.setCell ⟨g, j * 2, none⟩ (.int .u64 ((k : Int) + 2 * (j : Int)))).setCell ⟨g, j * 2 + 1, none⟩ (.int .i64 ((k : Int) + 2 * (j : Int) + 1))) := fun p q hin => by
        have hp := hin g 0 rfl (by omega)
        exact ((htr p q hin).trans (touch_oneTe _ g (j * 2) _ hp.1 hp.2)).trans (touch_oneTe _ g (j * 2 + 1) _ hp.1 hp.2)
      have FIN : Hid (_ ∧ _) := ⟨hs, ht⟩
      have hlti : (j : Int) < (n : Int) := by omega
      clear hor htr hs ht e0 e1 hfl
      go_wp2
      go_roundw
      case rel => exact ⟨j + 1, by omega, by go_num, by go_num, FIN.out.1, FIN.out.2⟩
      case measure => simp [intOf]; omega
    · obtain rfl : j = n := by omega
      have hm : mkdTe ps k j = marksTe k j := by rw [← HL.out]; exact mkdTe_all ps k
      rw [hm] at hor
      have FIN : Hid (_ ∧ _) := ⟨hor, htr⟩
      clear hor htr hm
      go_wp2
      go_ret
      exact ⟨by go_num, FIN.out.1, FIN.out.2⟩

end Go.Proofs.YtglpbgebcpijaaaGreat
