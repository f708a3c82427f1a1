import Derived.Test.YtdkgilkjcndonaaGL1
import Derived.Deep.RegionWith
namespace Go.Proofs.Ytdkgilkjcndonaa
open Go.RowKit

/-- A certificate of a path: what it says of policies. -/
structure PC where
  pols : List Int
  maps : List (Int × Int)
  self : Bool
  need : Int
  nomap : Int
  noany : Int
instance : Inhabited PC := ⟨⟨[], [], false, 0, 0, 0⟩⟩
def pcv (a1 : Option Addr) (n1 c1 : Nat) (a2 : Option Addr) (n2 c2 : Nat) (x : PC) : Value := .agg #[.slice a1 n1 c1, .slice a2 n2 c2, .bool x.self, .int .i64 x.need, .int .i64 x.nomap, .int .i64 x.noany]
def pmv (p : Int × Int) : Value := .agg #[.int .i64 p.1, .int .i64 p.2]

/-- The slice at a reads as these maps. -/
structure Pms (w : World) (a : Option Addr) (n : Nat) (ps : List (Int × Int)) : Prop where
  len : ps.length = n
  max : n ≤ 9223372036854775807
  get : ∀ k, k < n → ∃ b off, a = some ⟨b, off, none⟩ ∧ b < w.heap.size ∧ w.cell? ⟨b, off + k * 2, none⟩ = some (.int .i64 (ps.getD k (0, 0)).1) ∧ w.cell? ⟨b, off + k * 2 + 1, none⟩ = some (.int .i64 (ps.getD k (0, 0)).2)
theorem Pms.kept {w w' : World} {a : Option Addr} {n : Nat} {ps : List (Int × Int)} (h : Pms w a n ps) (hb : Below w.heap.size w w') : Pms w' a n ps := by
  refine ⟨h.len, h.max, fun k hk => ?_⟩
  obtain ⟨b, off, ha, hlt, h0, h1⟩ := h.get k hk
  exact ⟨b, off, ha, Nat.lt_of_lt_of_le hlt hb.size, (hb.cell (p := ⟨b, off + k * 2, none⟩) hlt).trans h0, (hb.cell (p := ⟨b, off + k * 2 + 1, none⟩) hlt).trans h1⟩

/-- The six cells of a certificate from o on. -/
structure CellsP (w : World) (b o : Nat) (a1 : Option Addr) (n1 c1 : Nat) (a2 : Option Addr) (n2 c2 : Nat) (x : PC) : Prop where
  c0 : w.cell? ⟨b, o, none⟩ = some (.slice a1 n1 c1)
  c1 : w.cell? ⟨b, o + 1, none⟩ = some (.slice a2 n2 c2)
  c2 : w.cell? ⟨b, o + 2, none⟩ = some (.bool x.self)
  c3 : w.cell? ⟨b, o + 3, none⟩ = some (.int .i64 x.need)
  c4 : w.cell? ⟨b, o + 4, none⟩ = some (.int .i64 x.nomap)
  c5 : w.cell? ⟨b, o + 5, none⟩ = some (.int .i64 x.noany)
theorem CellsP.of {w w' : World} {b o : Nat} {a1 : Option Addr} {n1 c1 : Nat} {a2 : Option Addr} {n2 c2 : Nat} {x : PC} (h : CellsP w b o a1 n1 c1 a2 n2 c2 x) (hc : ∀ i, w'.cell? ⟨b, i, none⟩ = w.cell? ⟨b, i, none⟩) : CellsP w' b o a1 n1 c1 a2 n2 c2 x :=
  ⟨(hc _).trans h.c0, (hc _).trans h.c1, (hc _).trans h.c2, (hc _).trans h.c3, (hc _).trans h.c4, (hc _).trans h.c5⟩

/-- Its two lists are there. -/
structure PcAt (w : World) (a1 : Option Addr) (n1 c1 : Nat) (a2 : Option Addr) (n2 : Nat) (x : PC) : Prop where
  pol : Row64 w a1 n1 x.pols
  le : n1 ≤ c1
  max : c1 ≤ 9223372036854775807
  mp : Pms w a2 n2 x.maps
theorem PcAt.kept {w w' : World} {a1 : Option Addr} {n1 c1 : Nat} {a2 : Option Addr} {n2 : Nat} {x : PC} (h : PcAt w a1 n1 c1 a2 n2 x) (hb : Below w.heap.size w w') : PcAt w' a1 n1 c1 a2 n2 x := ⟨h.pol.kept hb, h.le, h.max, h.mp.kept hb⟩

/-- The slice at a reads as these certificates. -/
structure Pcs (w : World) (a : Option Addr) (n : Nat) (xs : List PC) : Prop where
  len : xs.length = n
  max : n ≤ 9223372036854775807
  get : ∀ k, k < n → ∃ b off a1 n1 c1 a2 n2 c2, a = some ⟨b, off, none⟩ ∧ b < w.heap.size ∧ CellsP w b (off + k * 6) a1 n1 c1 a2 n2 c2 (xs.getD k default) ∧ PcAt w a1 n1 c1 a2 n2 (xs.getD k default)
theorem Pcs.kept {w w' : World} {a : Option Addr} {n : Nat} {xs : List PC} (h : Pcs w a n xs) (hb : Below w.heap.size w w') : Pcs w' a n xs := by
  refine ⟨h.len, h.max, fun k hk => ?_⟩
  obtain ⟨b, off, a1, n1, c1, a2, n2, c2, ha, hlt, hc, hp⟩ := h.get k hk
  exact ⟨b, off, a1, n1, c1, a2, n2, c2, ha, Nat.lt_of_lt_of_le hlt hb.size, hc.of (fun i => hb.cell (p := ⟨b, i, none⟩) hlt), hp.kept hb⟩
/-- It is small. -/
def PcOk (x : PC) : Prop := x.pols.length ≤ 1048576 ∧ x.maps.length ≤ 1048576

theorem keepP {a b c : World} (h1 : Below a.heap.size a b) (h2 : Below b.heap.size b c) : Below a.heap.size a c := h1.trans (h2.mono h1.size)
theorem below_drewNP {B : Nat} {w w' : World} (h : Below B w w') (n : Nat) : Below B w (w'.drewN n) := by
  induction n with
  | zero => simpa [World.drewN] using h
  | succ n ih => exact ih.drew

set_option maxHeartbeats 400000 in
theorem szInt64S_p (a : Option Addr) (n cap : Nat) (left : Int) (w : World) (hn : n ≤ 9223372036854775807) (h0 : 0 ≤ left) (h1 : left ≤ 1048576) :
    Calls Try.prog 69 #[.slice a n cap, .int .i64 left] w fun e w' => ∃ r, e = .returned (.int .i64 r) ∧ (r < 0 ∨ (0 ≤ r ∧ r ≤ 1048576 ∧ n ≤ 1048576)) ∧ w = w' := by
  by_cases hlt : (n : Int) ≤ left
  · go_enter Try.func69, Try.ntmps69
    go_wp2
    go_ret
    exact ⟨_, rfl, .inr (by omega), rfl⟩
  · go_enter Try.func69, Try.ntmps69
    go_wp2
    go_ret
    exact ⟨_, rfl, .inl (by decide), rfl⟩

set_option maxHeartbeats 400000 in
theorem szPolMapS_any (a : Option Addr) (n cap : Nat) (left : Int) (w : World) (hn : n ≤ 9223372036854775807) (h0 : 0 ≤ left) (h1 : left ≤ 1048576) :
    Calls Try.prog 70 #[.slice a n cap, .int .i64 left] w fun e w' => ∃ r, e = .returned (.int .i64 r) ∧ (r < 0 ∨ (0 ≤ r ∧ r ≤ 1048576 ∧ n ≤ 1048576)) ∧ w = w' := by
  by_cases hlt : (n : Int) ≤ left
  · go_enter Try.func70, Try.ntmps70
    go_wp2
    go_ret
    exact ⟨_, rfl, .inr (by omega), rfl⟩
  · go_enter Try.func70, Try.ntmps70
    go_wp2
    go_ret
    exact ⟨_, rfl, .inl (by decide), rfl⟩

set_option maxHeartbeats 1000000 in
theorem szPolCert_any (a1 : Option Addr) (n1 c1 : Nat) (a2 : Option Addr) (n2 c2 : Nat) (x : PC) (left : Int) (w : World) (h : PcAt w a1 n1 c1 a2 n2 x) (h0 : 0 ≤ left) (h1 : left ≤ 1048576) :
    Calls Try.prog 47 #[pcv a1 n1 c1 a2 n2 c2 x, .int .i64 left] w fun e w' => ∃ r, e = .returned (.int .i64 r) ∧ (r < 0 ∨ (0 ≤ r ∧ r ≤ 1048576 ∧ PcOk x)) ∧ Below w.heap.size w w' := by
  unfold pcv
  have hn1 : n1 ≤ 9223372036854775807 := Nat.le_trans h.le h.max
  have hn2 := h.mp.max
  have HL : Hid (x.pols.length = n1 ∧ x.maps.length = n2) := ⟨h.pol.len, h.mp.len⟩
  clear h
  have hbl : Below w.heap.size w (w.alloc (.cells #[.slice a1 n1 c1, .slice a2 n2 c2, .bool x.self, .int .i64 x.need, .int .i64 x.nomap, .int .i64 x.noany] 75)) := (Below.refl _ _).alloc (Nat.le_refl _) _
  go_enter Try.func47, Try.ntmps47
  go_wp2_with fail
  refine (szInt64S_p a1 n1 c1 left _ hn1 h0 h1).mono ?_
  rintro e w1 ⟨r, rfl, hr, rfl⟩
  by_cases hneg : r < 0
  · clear hr
    go_wp2
    go_ret
    exact ⟨_, rfl, .inl (by decide), hbl⟩
  · have hr0 : 0 ≤ r := by omega
    have hr1 : r ≤ 1048576 := by omega
    have hr2 : n1 ≤ 1048576 := by omega
    clear hr
    go_wp2_with fail
    refine (szPolMapS_any a2 n2 c2 r _ hn2 hr0 hr1).mono ?_
    rintro e w1 ⟨r', rfl, hr', rfl⟩
    by_cases hneg' : r' < 0
    · clear hr'
      go_wp2
      go_ret
      exact ⟨_, rfl, .inl (by decide), hbl⟩
    · have hs0 : 0 ≤ r' := by omega
      have hs1 : r' ≤ 1048576 := by omega
      have hs2 : n2 ≤ 1048576 := by omega
      clear hr'
      go_wp2
      go_ret
      exact ⟨_, rfl, .inr ⟨hs0, hs1, by rw [HL.out.1]; exact hr2, by rw [HL.out.2]; exact hs2⟩, hbl⟩

set_option maxHeartbeats 2000000 in
theorem szPolCertS_any (a : Option Addr) (n cap : Nat) (xs : List PC) (lf : Int) (w : World) (h : Pcs w a n xs) (hl0 : 0 ≤ lf) (hl1 : lf ≤ 1048576) :
    Calls Try.prog 19 #[.slice a n cap, .int .i64 lf] w fun e w' => ∃ r, e = .returned (.int .i64 r) ∧ (r < 0 ∨ (0 ≤ r ∧ r ≤ 1048576 ∧ n ≤ 1048576 ∧ ∀ k, k < n → PcOk (xs.getD k default))) ∧ Below w.heap.size w w' := by
  have H0 : Hid (Pcs w a n xs) := h
  have hn := h.max
  clear h
  by_cases hlt : (n : Int) ≤ lf
  · go_enter Try.func19, Try.ntmps19
    go_wp2
    go_loopw [1, 5] (fun l i wr => ∃ (k : Nat) (left : Int), k ≤ n ∧ i = .int .i64 k ∧ l = .int .i64 left ∧ 0 ≤ left ∧ left ≤ 1048576 ∧ Hid (∀ j, j < k → PcOk (xs.getD j default)) ∧ Below w.heap.size w wr) (fun _ i _ => n - (intOf i).toNat)
    case atStart => exact ⟨0, lf - n, Nat.zero_le _, rfl, rfl, by omega, by omega, fun j hj => absurd hj (Nat.not_lt_zero _), Below.refl _ _⟩
    case round =>
      obtain ⟨k, left, hk, rfl, rfl, h0, h1, HA, hbr⟩ := hrel
      by_cases hkn : k < n
      · obtain ⟨b, off, a1, n1, d1, a2, n2, d2, rfl, hlb, hc, hp⟩ := H0.out.get k hkn
        obtain ⟨y, hy⟩ : ∃ y, y = xs.getD k default := ⟨_, rfl⟩
        rw [← hy] at hc hp
        have HY : Hid (y = xs.getD k default) := hy
        obtain ⟨c0, c1, c2, c3, c4, c5⟩ := hc.of (w' := wr) (fun i => hbr.cell (p := ⟨b, i, none⟩) hlb)
        have HP : Hid (PcAt wr a1 n1 d1 a2 n2 y) := hp.kept hbr
        have hkni : (k : Int) < (n : Int) := by omega
        clear hc hy hp
        go_wp2_with fail
        refine (szPolCert_any a1 n1 d1 a2 n2 d2 y left _ HP.out h0 h1).mono ?_
        rintro e w2 ⟨r, rfl, hr, hb2⟩
        have hb2' : Below w.heap.size w w2 := hbr.trans (hb2.mono hbr.size)
        by_cases hneg : r < 0
        · clear hr
          go_wp2
          go_ret
          exact ⟨_, rfl, .inl (by decide), hb2'⟩
        · have hr1 : 0 ≤ r := by omega
          have hr2 : r ≤ 1048576 := by omega
          have HR : Hid (PcOk y) := by rcases hr with h | h; exact absurd h hneg; exact h.2.2
          clear hr
          go_wp2
          go_roundw
          case rel =>
            refine ⟨k + 1, r, by omega, by go_num, rfl, hr1, hr2, fun j hj => ?_, hb2'⟩
            by_cases hjk : j = k
            · subst hjk; rw [← HY.out]; exact HR.out
            · exact HA.out j (by omega)
          case measure => simp [intOf]; omega
      · obtain rfl : n = k := by omega
        go_wp2
        go_ret
        exact ⟨_, rfl, .inr ⟨h0, h1, by omega, HA.out⟩, hbr⟩
  · go_enter Try.func19, Try.ntmps19
    go_wp2
    go_ret
    exact ⟨_, rfl, .inl (by decide), Below.refl _ _⟩

set_option maxHeartbeats 400000 in
theorem eqPolMap_same (p : Int × Int) (w : World) :
    Calls Try.prog 83 #[pmv p, pmv p] w fun e w' => e = .returned (.bool true) ∧ Below w.heap.size w w' := by
  obtain ⟨a, b⟩ := p
  unfold pmv
  have z1 : (a != a) = false := by simp
  have z2 : (b != b) = false := by simp
  go_enter Try.func83, Try.ntmps83
  go_wp2
  go_ret
  exact ⟨rfl, ((Below.refl _ _).alloc (Nat.le_refl _) _).alloc (by simp) _⟩

set_option maxHeartbeats 2000000 in
theorem eqPolMapS_same (a b : Option Addr) (n ca cb : Nat) (ps : List (Int × Int)) (w : World) (hx : Pms w a n ps) (hy : Pms w b n ps) :
    Calls Try.prog 72 #[.slice a n ca, .slice b n cb] w fun e w' => e = .returned (.bool true) ∧ Below w.heap.size w w' := by
  have HX : Hid (Pms w a n ps) := hx
  have HY : Hid (Pms w b n ps) := hy
  have hn := hx.max
  clear hx hy
  have zn : ((n : Int) != (n : Int)) = false := by simp
  go_enter Try.func72, Try.ntmps72
  go_wp2
  go_loopw [5] (fun i wr => ∃ k : Nat, k ≤ n ∧ i = .int .i64 k ∧ Below w.heap.size w wr) (fun i _ => n - (intOf i).toNat)
  case atStart => exact ⟨0, Nat.zero_le _, rfl, Below.refl _ _⟩
  case round =>
    obtain ⟨k, hk, rfl, hbr⟩ := hrel
    by_cases hlt : k < n
    · obtain ⟨b1, o1, rfl, hl1, x0, x1⟩ := (HX.out.kept hbr).get k hlt
      obtain ⟨b2, o2, rfl, hl2, y0, y1⟩ := (HY.out.kept hbr).get k hlt
      obtain ⟨q, hq⟩ : ∃ q, q = ps.getD k (0, 0) := ⟨_, rfl⟩
      rw [← hq] at x0 x1 y0 y1
      clear hq
      have hlti : (k : Int) < (n : Int) := by omega
      go_wp2_with fail
      have EQ : Hid (_) := eqPolMap_same q wr.drew
      have e0 : wr.drew.cell? ⟨b1, o1 + k * 2, none⟩ = some (.int .i64 q.1) := x0
      go_region_with ((go_at_call 83; refine Calls.mono EQ.out ?_; rintro e w2 ⟨rfl, hb2⟩))
      all_goals
        go_wp2
        go_roundw
        case rel => exact ⟨k + 1, by omega, by go_num, keepP hbr.drew hb2⟩
        case measure => simp [intOf]; omega
    · go_wp2
      go_ret
      exact ⟨rfl, hbr⟩

theorem two_blocksP (w : World) (o0 o1 : Obj) : ((w.alloc o0).alloc o1).heap[w.heap.size]? = some o0 ∧ ((w.alloc o0).alloc o1).heap[w.heap.size + 1]? = some o1 := by
  have s1 : (w.alloc o0).heap.size = w.heap.size + 1 := by simp
  exact ⟨(((Below.refl (w.alloc o0).heap.size (w.alloc o0)).alloc (Nat.le_refl _) o1).block _ (by omega)).trans (heap_alloc_new w o0), by rw [← s1]; exact heap_alloc_new _ o1⟩

set_option maxHeartbeats 2000000 in
theorem eqPolCert_same (a1 : Option Addr) (n1 c1 : Nat) (a2 : Option Addr) (n2 c2 : Nat) (b1 : Option Addr) (d1 : Nat) (b2 : Option Addr) (d2 : Nat) (x : PC) (w : World) (h : PcAt w a1 n1 c1 a2 n2 x) (h2 : PcAt w b1 n1 d1 b2 n2 x) :
    Calls Try.prog 49 #[pcv a1 n1 c1 a2 n2 c2 x, pcv b1 n1 d1 b2 n2 d2 x] w fun e w' => e = .returned (.bool true) ∧ Below w.heap.size w w' := by
  have H1 : Hid (PcAt w a1 n1 c1 a2 n2 x) := h
  have H2 : Hid (PcAt w b1 n1 d1 b2 n2 x) := h2
  clear h h2
  unfold pcv
  have t1 : (x.self != x.self) = false := by simp
  have t2 : (x.need != x.need) = false := by simp
  have t3 : (x.nomap != x.nomap) = false := by simp
  have t4 : (x.noany != x.noany) = false := by simp
  obtain ⟨W0, hW0⟩ : ∃ W0, W0 = ((w.alloc (.cells #[.slice a1 n1 c1, .slice a2 n2 c2, .bool x.self, .int .i64 x.need, .int .i64 x.nomap, .int .i64 x.noany] 41)).alloc (.cells #[.slice b1 n1 d1, .slice b2 n2 d2, .bool x.self, .int .i64 x.need, .int .i64 x.nomap, .int .i64 x.noany] 41)) := ⟨_, rfl⟩
  have hbl : Below w.heap.size w W0 := by rw [hW0]; exact ((Below.refl _ _).alloc (Nat.le_refl _) _).alloc (by simp) _
  have b0 := two_blocksP w (.cells #[.slice a1 n1 c1, .slice a2 n2 c2, .bool x.self, .int .i64 x.need, .int .i64 x.nomap, .int .i64 x.noany] 41) (.cells #[.slice b1 n1 d1, .slice b2 n2 d2, .bool x.self, .int .i64 x.need, .int .i64 x.nomap, .int .i64 x.noany] 41)
  rw [← hW0] at b0
  go_enter Try.func49, Try.ntmps49
  go_wp2_with fail
  rw [← hW0]
  clear hW0
  refine (eqInt64S_same a1 b1 n1 c1 d1 x.pols _ (H1.out.kept hbl).pol (H2.out.kept hbl).pol (Nat.le_trans H1.out.le H1.out.max)).mono ?_
  rintro e w2 ⟨rfl, hb2⟩
  have l0 := (Array.getElem?_eq_some_iff.1 b0.2).1
  have y0 := (hb2.block _ (by omega)).trans b0.1
  have y1 := (hb2.block _ l0).trans b0.2
  have l1 := (Array.getElem?_eq_some_iff.1 y1).1
  have B2 : Below w.heap.size w w2 := keepP hbl hb2
  have e1 : w2.cell? ⟨w.heap.size, 1, none⟩ = some (.slice a2 n2 c2) := (cell_of_row _ _ 1 _ 41 (0, 0) y0).trans rfl
  have e2 : w2.cell? ⟨w.heap.size + 1, 1, none⟩ = some (.slice b2 n2 d2) := (cell_of_row _ _ 1 _ 41 (0, 0) y1).trans rfl
  have Y : Hid (_ ∧ _) := ⟨y0, y1⟩
  have HB2 : Hid (Below w.heap.size w w2) := B2
  clear hb2 y0 y1 b0 hbl l0 B2
  go_wp2_with fail
  refine (eqPolMapS_same a2 b2 n2 c2 d2 x.maps _ (H1.out.kept HB2.out).mp (H2.out.kept HB2.out).mp).mono ?_
  rintro e w3 ⟨rfl, hb3⟩
  have y0 := (hb3.block _ (by omega)).trans Y.out.1
  have y1 := (hb3.block _ l1).trans Y.out.2
  clear e1 e2 l1
  have c2' : w3.cell? ⟨w.heap.size, 2, none⟩ = some (.bool x.self) := (cell_of_row _ _ 2 _ 41 (0, 0) y0).trans rfl
  have c3' : w3.cell? ⟨w.heap.size, 3, none⟩ = some (.int .i64 x.need) := (cell_of_row _ _ 3 _ 41 (0, 0) y0).trans rfl
  have c4' : w3.cell? ⟨w.heap.size, 4, none⟩ = some (.int .i64 x.nomap) := (cell_of_row _ _ 4 _ 41 (0, 0) y0).trans rfl
  have c5' : w3.cell? ⟨w.heap.size, 5, none⟩ = some (.int .i64 x.noany) := (cell_of_row _ _ 5 _ 41 (0, 0) y0).trans rfl
  have d2' : w3.cell? ⟨w.heap.size + 1, 2, none⟩ = some (.bool x.self) := (cell_of_row _ _ 2 _ 41 (0, 0) y1).trans rfl
  have d3' : w3.cell? ⟨w.heap.size + 1, 3, none⟩ = some (.int .i64 x.need) := (cell_of_row _ _ 3 _ 41 (0, 0) y1).trans rfl
  have d4' : w3.cell? ⟨w.heap.size + 1, 4, none⟩ = some (.int .i64 x.nomap) := (cell_of_row _ _ 4 _ 41 (0, 0) y1).trans rfl
  have d5' : w3.cell? ⟨w.heap.size + 1, 5, none⟩ = some (.int .i64 x.noany) := (cell_of_row _ _ 5 _ 41 (0, 0) y1).trans rfl
  have HF : Hid (Below w.heap.size w w3) := keepP HB2.out hb3
  clear hb3 y0 y1 Y
  go_wp2
  go_ret
  exact ⟨rfl, HF.out⟩

set_option maxRecDepth 10000 in
set_option maxHeartbeats 4000000 in
theorem eqPolCertS_same (a b : Option Addr) (n ca cb : Nat) (xs : List PC) (w : World) (h : Pcs w a n xs) (h2 : Pcs w b n xs) :
    Calls Try.prog 22 #[.slice a n ca, .slice b n cb] w fun e w' => e = .returned (.bool true) ∧ Below w.heap.size w w' := by
  have HK : Hid (Pcs w a n xs) := h
  have HK2 : Hid (Pcs w b n xs) := h2
  have hn := h.max
  clear h h2
  go_enter Try.func22, Try.ntmps22
  go_wp2
  go_loopw [5] (fun i wr => ∃ k : Nat, k ≤ n ∧ i = .int .i64 k ∧ Below w.heap.size w wr) (fun i _ => n - (intOf i).toNat)
  case atStart => exact ⟨0, Nat.zero_le _, rfl, Below.refl _ _⟩
  case round =>
    obtain ⟨k, hk, rfl, hbr⟩ := hrel
    by_cases hkn : k < n
    · obtain ⟨b1, off1, p1, m1, e1, p2, m2, e2, rfl, hl1, hc1, hp1⟩ := HK.out.get k hkn
      obtain ⟨b2, off2, q1, k1, f1, q2, k2, f2, rfl, hl2, hc2, hp2⟩ := HK2.out.get k hkn
      obtain ⟨y, hy⟩ : ∃ y, y = xs.getD k default := ⟨_, rfl⟩
      rw [← hy] at hc1 hc2 hp1 hp2
      clear hy
      obtain rfl : k1 = m1 := by rw [← hp2.pol.len, ← hp1.pol.len]
      obtain rfl : k2 = m2 := by rw [← hp2.mp.len, ← hp1.mp.len]
      obtain ⟨c0, c1, c2, c3, c4, c5⟩ := hc1.of (w' := wr) (fun i => hbr.cell (p := ⟨b1, i, none⟩) hl1)
      obtain ⟨d0, d1, d2, d3, d4, d5⟩ := hc2.of (w' := wr) (fun i => hbr.cell (p := ⟨b2, i, none⟩) hl2)
      have HP1 : Hid (PcAt wr.drew p1 k1 e1 p2 k2 y) := hp1.kept hbr.drew
      have HP2 : Hid (PcAt wr.drew q1 k1 f1 q2 k2 y) := hp2.kept hbr.drew
      have hkni : (k : Int) < (n : Int) := by omega
      have hs := hbr.size
      clear hc1 hc2 hp1 hp2
      go_wp2_with fail
      go_region_with (go_at_call 49; refine (eqPolCert_same p1 k1 e1 p2 k2 e2 q1 f1 q2 f2 y _ HP1.out HP2.out).mono ?_; rintro e w2 ⟨rfl, hb2⟩)
      all_goals
        have b5 : Below w.heap.size w w2 := hbr.drew.trans (hb2.mono hs)
        go_wp2
        go_roundw
        case rel => exact ⟨k + 1, by omega, by go_num, b5⟩
        case measure => simp [intOf]; omega
    · go_wp2
      go_ret
      exact ⟨rfl, hbr⟩

end Go.Proofs.Ytdkgilkjcndonaa
