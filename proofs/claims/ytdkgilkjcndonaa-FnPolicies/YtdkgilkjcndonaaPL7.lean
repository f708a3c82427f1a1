import Derived.Test.YtdkgilkjcndonaaPL4
import Derived.BigRegion
import Derived.Deep.RegionLaw
namespace Go.Proofs.Ytdkgilkjcndonaa
open Go.RowKit

/-- The three counters as a list, the three limits as a list. -/
def cs3 (c : Int × Int × Int) : List Int := [c.1, c.2.1, c.2.2]
def lim3 (x : PC) : List Int := [x.need, x.nomap, x.noany]
def nxt3 (c : Int × Int × Int) (x : PC) : Int × Int × Int := (nxt c.1 x.self x.need, nxt c.2.1 x.self x.nomap, nxt c.2.2 x.self x.noany)
/-- The first k of them are counted on. -/
def mixL (c : Int × Int × Int) (x : PC) (k : Nat) : List Int := [if 0 < k then (nxt3 c x).1 else c.1, if 1 < k then (nxt3 c x).2.1 else c.2.1, if 2 < k then (nxt3 c x).2.2 else c.2.2]
def arr3 (l : List Int) : Array Value := #[.int .i64 (l.getD 0 0), .int .i64 (l.getD 1 0), .int .i64 (l.getD 2 0)]
theorem mix_get (c : Int × Int × Int) (x : PC) (k : Nat) (hk : k < 3) : (arr3 (mixL c x k))[k]? = some (.int .i64 ((cs3 c).getD k 0)) := by
  match k, hk with
  | 0, _ => rfl
  | 1, _ => rfl
  | 2, _ => rfl
theorem mix_set (c : Int × Int × Int) (x : PC) (k : Nat) (hk : k < 3) (u : Int) (hu : u = nxt ((cs3 c).getD k 0) x.self ((lim3 x).getD k 0)) : (arr3 (mixL c x k)).setIfInBounds k (.int .i64 u) = arr3 (mixL c x (k + 1)) := by
  subst hu
  match k, hk with
  | 0, _ => rfl
  | 1, _ => rfl
  | 2, _ => rfl
theorem set_set (l : Array Value) (k : Nat) (u v : Value) : (l.setIfInBounds k u).setIfInBounds k v = l.setIfInBounds k v := by simp
theorem lim_get (x : PC) (k : Nat) (hk : k < 3) : (arr3 (lim3 x))[k]? = some (.int .i64 ((lim3 x).getD k 0)) := by
  match k, hk with
  | 0, _ => rfl
  | 1, _ => rfl
  | 2, _ => rfl
theorem mix_three (c : Int × Int × Int) (x : PC) : arr3 (mixL c x 3) = #[.int .i64 (nxt3 c x).1, .int .i64 (nxt3 c x).2.1, .int .i64 (nxt3 c x).2.2] := rfl
/-- The counters are small; the limits are right. -/
def Bd3 (c : Int × Int × Int) : Prop := ∀ k, k < 3 → 0 ≤ (cs3 c).getD k 0 ∧ (cs3 c).getD k 0 ≤ 9
def Lm3 (x : PC) : Prop := ∀ k, k < 3 → -1 ≤ (lim3 x).getD k 0 ∧ (lim3 x).getD k 0 ≤ 10
theorem certP.lim {x : PC} (h : certP x) : Lm3 x := by
  intro k hk
  obtain ⟨h0, h1, h2⟩ := h.2.1
  match k, hk with
  | 0, _ => exact h0
  | 1, _ => exact h1
  | 2, _ => exact h2

def c3p (c : Int × Int × Int) : Value := c3v c.1 c.2.1 c.2.2

/-- What stands while the first k are counted on. -/
structure BH (w W : World) (g3 : Nat) (c : Int × Int × Int) (a1 : Option Addr) (n1 c1 : Nat) (a2 : Option Addr) (n2 c2 : Nat) (x : PC) (k : Nat) : Prop where
  b0 : W.heap[w.heap.size]? = some (.cells (arr3 (mixL c x k)) 86 (0, 0))
  b1 : W.heap[w.heap.size + 1]? = some (.cells #[.slice a1 n1 c1, .slice a2 n2 c2, .bool x.self, .int .i64 x.need, .int .i64 x.nomap, .int .i64 x.noany] 41 (0, 0))
  b2 : W.heap[w.heap.size + 2]? = some (.cells #[.int .i64 0, .int .i64 0, .int .i64 0] 86 (0, 0))
  b3 : W.heap[g3]? = some (.cells (arr3 (lim3 x)) 86 (0, 0))
  below : Below w.heap.size w W
  ge : w.heap.size + 3 ≤ g3
theorem BH.drew {w W : World} {g3 : Nat} {c : Int × Int × Int} {a1 : Option Addr} {n1 c1 : Nat} {a2 : Option Addr} {n2 c2 : Nat} {x : PC} {k : Nat} (h : BH w W g3 c a1 n1 c1 a2 n2 c2 x k) : BH w W.drew g3 c a1 n1 c1 a2 n2 c2 x k := ⟨h.b0, h.b1, h.b2, h.b3, h.below.drew, h.ge⟩
theorem BH.none {w W : World} {g3 : Nat} {c : Int × Int × Int} {a1 : Option Addr} {n1 c1 : Nat} {a2 : Option Addr} {n2 c2 : Nat} {x : PC} {k : Nat} (h : BH w W g3 c a1 n1 c1 a2 n2 c2 x k) (hk : k < 3) (e : (cs3 c).getD k 0 = nxt ((cs3 c).getD k 0) x.self ((lim3 x).getD k 0)) : BH w W g3 c a1 n1 c1 a2 n2 c2 x (k + 1) := by
  refine ⟨?_, h.b1, h.b2, h.b3, h.below, h.ge⟩
  rw [h.b0, ← mix_set c x k hk _ e]
  have hg := mix_get c x k hk
  obtain ⟨hlt, hg⟩ := Array.getElem?_eq_some_iff.1 hg
  rw [← hg, Array.setIfInBounds, dif_pos hlt, Array.set_getElem_self]
theorem BH.one {w W : World} {g3 : Nat} {c : Int × Int × Int} {a1 : Option Addr} {n1 c1 : Nat} {a2 : Option Addr} {n2 c2 : Nat} {x : PC} {k : Nat} (h : BH w W g3 c a1 n1 c1 a2 n2 c2 x k) (hk : k < 3) (u : Int) (e : u = nxt ((cs3 c).getD k 0) x.self ((lim3 x).getD k 0)) : BH w (W.setCell ⟨w.heap.size, k, .none⟩ (.int .i64 u)) g3 c a1 n1 c1 a2 n2 c2 x (k + 1) := by
  have hg := h.ge
  have f : ∀ l, l ≠ w.heap.size → (W.setCell ⟨w.heap.size, k, .none⟩ (.int .i64 u)).heap[l]? = W.heap[l]? := fun l hl => Below.heap_setCell _ _ _ _ (by show l ≠ w.heap.size; exact hl)
  refine ⟨?_, (f _ (by omega)).trans h.b1, (f _ (by omega)).trans h.b2, (f _ (by omega)).trans h.b3, h.below.setCell (Nat.le_refl _) _, hg⟩
  rw [← mix_set c x k hk u e]
  exact heap_setCell_same W w.heap.size k _ 86 _ h.b0
theorem BH.two {w W : World} {g3 : Nat} {c : Int × Int × Int} {a1 : Option Addr} {n1 c1 : Nat} {a2 : Option Addr} {n2 c2 : Nat} {x : PC} {k : Nat} (h : BH w W g3 c a1 n1 c1 a2 n2 c2 x k) (hk : k < 3) (u0 : Value) (u : Int) (e : u = nxt ((cs3 c).getD k 0) x.self ((lim3 x).getD k 0)) : BH w ((W.setCell ⟨w.heap.size, k, .none⟩ u0).setCell ⟨w.heap.size, k, .none⟩ (.int .i64 u)) g3 c a1 n1 c1 a2 n2 c2 x (k + 1) := by
  have hg := h.ge
  have f : ∀ l, l ≠ w.heap.size → ((W.setCell ⟨w.heap.size, k, .none⟩ u0).setCell ⟨w.heap.size, k, .none⟩ (.int .i64 u)).heap[l]? = W.heap[l]? := fun l hl => (Below.heap_setCell _ _ _ _ (by show l ≠ w.heap.size; exact hl)).trans (Below.heap_setCell _ _ _ _ (by show l ≠ w.heap.size; exact hl))
  refine ⟨?_, (f _ (by omega)).trans h.b1, (f _ (by omega)).trans h.b2, (f _ (by omega)).trans h.b3, (h.below.setCell (Nat.le_refl _) _).setCell (Nat.le_refl _) _, hg⟩
  rw [← mix_set c x k hk u e, ← set_set _ k u0 _]
  exact heap_setCell_same _ w.heap.size k _ 86 _ (heap_setCell_same W w.heap.size k _ 86 _ h.b0)

set_option maxRecDepth 10000 in
set_option maxHeartbeats 2000000 in
theorem behind_any (c : Int × Int × Int) (a1 : Option Addr) (n1 c1 : Nat) (a2 : Option Addr) (n2 c2 : Nat) (x : PC) (w : World) (hb3 : Bd3 c) (hl3 : Lm3 x) :
    Calls Try.prog 56 #[c3p c, pcv a1 n1 c1 a2 n2 c2 x] w fun e w' => e = .returned (c3p (nxt3 c x)) ∧ Below w.heap.size w w' := by
  have HB3 : Hid (Bd3 c) := hb3
  have HL3 : Hid (Lm3 x) := hl3
  clear hb3 hl3
  obtain ⟨W0, hW0⟩ : ∃ W0, W0 = (((w.alloc (.cells #[.int .i64 c.1, .int .i64 c.2.1, .int .i64 c.2.2] 86)).alloc (.cells #[.slice a1 n1 c1, .slice a2 n2 c2, .bool x.self, .int .i64 x.need, .int .i64 x.nomap, .int .i64 x.noany] 41)).alloc (.cells #[.int .i64 0, .int .i64 0, .int .i64 0] 86)) := ⟨_, rfl⟩
  have hB0 : Below w.heap.size w W0 := by rw [hW0]; exact (((Below.refl _ _).alloc (Nat.le_refl _) _).alloc (by simp) _).alloc (by simp; omega) _
  have hS0 : W0.heap.size = w.heap.size + 3 := by rw [hW0]; simp
  obtain ⟨b0, b1, b2⟩ := three_blocksP w (.cells #[.int .i64 c.1, .int .i64 c.2.1, .int .i64 c.2.2] 86) (.cells #[.slice a1 n1 c1, .slice a2 n2 c2, .bool x.self, .int .i64 x.need, .int .i64 x.nomap, .int .i64 x.noany] 41) (.cells #[.int .i64 0, .int .i64 0, .int .i64 0] 86)
  rw [← hW0] at b0 b1 b2
  have hL : Hid (∀ W, Calls Try.prog 73 #[.agg #[.slice a1 n1 c1, .slice a2 n2 c2, .bool x.self, .int .i64 x.need, .int .i64 x.nomap, .int .i64 x.noany]] W fun e w' => e = .returned (c3v x.need x.nomap x.noany) ∧ Below W.heap.size W w') := fun W => limits_any a1 n1 c1 a2 n2 c2 x W
  unfold c3p pcv
  rw [c3v]
  go_enter Try.func56, Try.ntmps56
  go_wp2_with fail
  rw [← hW0]
  clear hW0
  refine (hL.out _).mono ?_
  rintro e w1 ⟨rfl, hb1⟩
  have s1 := hb1.size
  have y0 := (hb1.block _ (by omega)).trans b0
  have y1 := (hb1.block _ (by omega)).trans b1
  have y2 := (hb1.block _ (by omega)).trans b2
  have B1 : Below w.heap.size w w1 := keepP hB0 hb1
  obtain ⟨w2, hw2⟩ : ∃ w2, w2 = w1.alloc (.cells #[.int .i64 x.need, .int .i64 x.nomap, .int .i64 x.noany] 86) := ⟨_, rfl⟩
  have z0 : w2.heap[w.heap.size]? = some (.cells (arr3 (mixL c x 0)) 86 (0, 0)) := by rw [hw2, alloc_oldP _ _ _ (by omega)]; exact y0
  have z1 : w2.heap[w.heap.size + 1]? = some (.cells #[.slice a1 n1 c1, .slice a2 n2 c2, .bool x.self, .int .i64 x.need, .int .i64 x.nomap, .int .i64 x.noany] 41 (0, 0)) := by rw [hw2, alloc_oldP _ _ _ (by omega)]; exact y1
  have z2 : w2.heap[w.heap.size + 2]? = some (.cells #[.int .i64 0, .int .i64 0, .int .i64 0] 86 (0, 0)) := by rw [hw2, alloc_oldP _ _ _ (by omega)]; exact y2
  have z3 : w2.heap[w1.heap.size]? = some (.cells (arr3 (lim3 x)) 86 (0, 0)) := by rw [hw2]; exact heap_alloc_new w1 _
  have B2 : Below w.heap.size w w2 := by rw [hw2]; exact B1.alloc B1.size _
  have HW2 : Hid (_ = _) := hw2
  obtain ⟨g3, hg3⟩ : ∃ g3, g3 = w1.heap.size := ⟨_, rfl⟩
  rw [← hg3] at z3
  have HBH : Hid (BH w w2 g3 c a1 n1 c1 a2 n2 c2 x 0) := ⟨z0, z1, z2, z3, B2, by omega⟩
  unfold c3v
  clear b0 b1 b2 y0 y1 y2 hb1 hB0 hS0 hL z0 z1 z2 z3 B1 B2 hw2
  go_upto_region 2 with fail
  rw [← HW2.out]
  clear HW2
  rw [← hg3]
  clear hg3 s1
  go_wp2
  go_loopw [9] (fun i wr => ∃ k : Nat, k ≤ 3 ∧ i = .int .i64 k ∧ Hid (BH w wr g3 c a1 n1 c1 a2 n2 c2 x k)) (fun i _ => 3 - (intOf i).toNat)
  case atStart => exact ⟨0, Nat.zero_le _, rfl, HBH⟩
  case round =>
    obtain ⟨k, hk, rfl, HA⟩ := hrel
    clear HBH
    have l0 : w.heap.size < wr.heap.size := (Array.getElem?_eq_some_iff.1 HA.out.b0).1
    have l2 : w.heap.size + 2 < wr.heap.size := (Array.getElem?_eq_some_iff.1 HA.out.b2).1
    by_cases hlt : k < 3
    · obtain ⟨ck, hck⟩ : ∃ ck, ck = (cs3 c).getD k 0 := ⟨_, rfl⟩
      obtain ⟨lk, hlk⟩ : ∃ lk, lk = (lim3 x).getD k 0 := ⟨_, rfl⟩
      obtain ⟨sf, hsf⟩ : ∃ sf, sf = x.self := ⟨_, rfl⟩
      have bc := HB3.out k hlt
      have bl := HL3.out k hlt
      rw [← hck] at bc
      rw [← hlk] at bl
      have x0 : wr.cell? ⟨w.heap.size, k, none⟩ = some (.int .i64 ck) := (cell_of_row _ _ k _ 86 (0, 0) HA.out.b0).trans (by rw [hck]; exact mix_get c x k hlt)
      have x1 : wr.cell? ⟨w.heap.size + 1, 2, none⟩ = some (.bool sf) := (cell_of_row _ _ 2 _ 41 (0, 0) HA.out.b1).trans (by rw [hsf]; rfl)
      have x3 : wr.cell? ⟨g3, k, none⟩ = some (.int .i64 lk) := (cell_of_row _ _ k _ 86 (0, 0) HA.out.b3).trans (by rw [hlk]; exact lim_get x k hlt)
      have f0 : wr.frozen? ⟨w.heap.size, k, none⟩ = false := frozen_of_row wr _ k _ 86 HA.out.b0
      have l1 : w.heap.size + 1 < wr.heap.size := by omega
      have l3 : g3 < wr.heap.size := (Array.getElem?_eq_some_iff.1 HA.out.b3).1
      have hlti : (k : Int) < 3 := by omega
      have HNX : Hid (nxt ((cs3 c).getD k 0) x.self ((lim3 x).getD k 0) = nxt ck sf lk) := by show _ = _; rw [hck, hlk, hsf]
      have HCK : Hid (ck = (cs3 c).getD k 0) := hck
      have z3 : ¬ ((k : Int) < 0) := by omega
      have ktn : ((k : Int)).toNat = k := by omega
      clear hck hlk hsf
      cases sf with
      | false =>
        by_cases hc : 0 < ck
        · have x4 : (wr.setCell ⟨w.heap.size, k, none⟩ (.int .i64 (ck - 1))).cell? ⟨g3, k, none⟩ = some (.int .i64 lk) := (World.cell?_of_block (a := ⟨g3, k, none⟩) (Below.heap_setCell _ _ _ _ (by show g3 ≠ w.heap.size; have := HA.out.ge; omega))).trans x3
          have HU : Hid (nxt ck false lk = if lk = -1 then ck - 1 else if lk < ck - 1 then lk else ck - 1) := by
            show _ = _
            unfold nxt
            rw [if_pos (⟨rfl, hc⟩ : false = false ∧ 0 < ck)]
            repeat' split
            all_goals omega
          by_cases hl : lk = -1
          · have hln : (lk != -1) = false := by simp [hl]
            have FIN : Hid (_) := HA.out.one hlt (ck - 1) (by rw [HNX.out, HU.out, if_pos hl])
            clear HU HNX HCK HA hl
            go_wp2
            go_roundw
            case rel => exact ⟨k + 1, by omega, by go_num, FIN⟩
            case measure => simp [intOf]; omega
          · have hln : (lk != -1) = true := by simp [hl]
            have FIN : Hid (_) := (HA.out.two hlt (.int .i64 (ck - 1)) (if lk < ck - 1 then lk else ck - 1) (by rw [HNX.out, HU.out, if_neg hl])).drew
            clear HU HNX HCK HA hl
            go_wp2
            go_region
            go_wp2
            go_roundw
            case rel => exact ⟨k + 1, by omega, by go_num, FIN⟩
            case measure => simp [intOf]; omega
        · have HU : Hid (nxt ck false lk = if lk = -1 then ck else if lk < ck then lk else ck) := by
            show _ = _
            unfold nxt
            rw [if_neg (fun h : false = false ∧ 0 < ck => hc h.2)]
            repeat' split
            all_goals omega
          by_cases hl : lk = -1
          · have hln : (lk != -1) = false := by simp [hl]
            have FIN : Hid (_) := HA.out.none hlt (by rw [HNX.out, HU.out, if_pos hl]; exact HCK.out.symm)
            clear HU HNX HCK HA hl
            go_wp2
            go_roundw
            case rel => exact ⟨k + 1, by omega, by go_num, FIN⟩
            case measure => simp [intOf]; omega
          · have hln : (lk != -1) = true := by simp [hl]
            have FIN : Hid (_) := (HA.out.one hlt (if lk < ck then lk else ck) (by rw [HNX.out, HU.out, if_neg hl])).drew
            clear HU HNX HCK HA hl
            go_wp2
            go_region
            go_wp2
            go_roundw
            case rel => exact ⟨k + 1, by omega, by go_num, FIN⟩
            case measure => simp [intOf]; omega
      | true =>
        have HU : Hid (nxt ck true lk = if lk = -1 then ck else if lk < ck then lk else ck) := by
          show _ = _
          unfold nxt
          simp only [Bool.true_eq_false, false_and, if_false]
          repeat' split
          all_goals omega
        by_cases hl : lk = -1
        · have hln : (lk != -1) = false := by simp [hl]
          have FIN : Hid (_) := HA.out.none hlt (by rw [HNX.out, HU.out, if_pos hl]; exact HCK.out.symm)
          clear HU HNX HCK HA hl
          go_wp2
          go_roundw
          case rel => exact ⟨k + 1, by omega, by go_num, FIN⟩
          case measure => simp [intOf]; omega
        · have hln : (lk != -1) = true := by simp [hl]
          have FIN : Hid (_) := (HA.out.one hlt (if lk < ck then lk else ck) (by rw [HNX.out, HU.out, if_neg hl])).drew
          clear HU HNX HCK HA hl
          go_wp2
          go_region
          go_wp2
          go_roundw
          case rel => exact ⟨k + 1, by omega, by go_num, FIN⟩
          case measure => simp [intOf]; omega
    · obtain rfl : k = 3 := by omega
      have hb0 := HA.out.b0
      rw [mix_three] at hb0
      have o0 : wr.cell? ⟨w.heap.size, 0, none⟩ = some (.int .i64 (nxt3 c x).1) := (cell_of_row _ _ 0 _ 86 (0, 0) hb0).trans rfl
      have o1 : wr.cell? ⟨w.heap.size, 1, none⟩ = some (.int .i64 (nxt3 c x).2.1) := (cell_of_row _ _ 1 _ 86 (0, 0) hb0).trans rfl
      have o2 : wr.cell? ⟨w.heap.size, 2, none⟩ = some (.int .i64 (nxt3 c x).2.2) := (cell_of_row _ _ 2 _ 86 (0, 0) hb0).trans rfl
      have r0 : wr.cell? ⟨w.heap.size + 1 + 1, 0, none⟩ = some (.int .i64 0) := (cell_of_row _ _ 0 _ 86 (0, 0) HA.out.b2).trans rfl
      have r1 : wr.cell? ⟨w.heap.size + 1 + 1, 1, none⟩ = some (.int .i64 0) := (cell_of_row _ _ 1 _ 86 (0, 0) HA.out.b2).trans rfl
      have r2 : wr.cell? ⟨w.heap.size + 1 + 1, 2, none⟩ = some (.int .i64 0) := (cell_of_row _ _ 2 _ 86 (0, 0) HA.out.b2).trans rfl
      have g0 : wr.frozen? ⟨w.heap.size + 1 + 1, 0, none⟩ = false := frozen_of_row wr _ 0 _ 86 HA.out.b2
      have g1 : wr.frozen? ⟨w.heap.size + 1 + 1, 1, none⟩ = false := frozen_of_row wr _ 1 _ 86 HA.out.b2
      have g2 : wr.frozen? ⟨w.heap.size + 1 + 1, 2, none⟩ = false := frozen_of_row wr _ 2 _ 86 HA.out.b2
      clear hb0
      go_wp2
      try simp only [Exit.inBlock, Exit.then]
      have q0 := heap_setCell_same wr (w.heap.size + 1 + 1) 0 _ 86 (.int .i64 (nxt3 c x).1) HA.out.b2
      have q1 := heap_setCell_same _ (w.heap.size + 1 + 1) 1 _ 86 (.int .i64 (nxt3 c x).2.1) q0
      have q2 := heap_setCell_same _ (w.heap.size + 1 + 1) 2 _ 86 (.int .i64 (nxt3 c x).2.2) q1
      exact bodyPost_ret (results_c3 rfl _ (w.heap.size + 1 + 1) rfl _ _ _ _ q2) rfl ⟨rfl, ((HA.out.below.setCell (by show w.heap.size ≤ w.heap.size + 1 + 1; omega) _).setCell (by show w.heap.size ≤ w.heap.size + 1 + 1; omega) _).setCell (by show w.heap.size ≤ w.heap.size + 1 + 1; omega) _⟩

end Go.Proofs.Ytdkgilkjcndonaa
