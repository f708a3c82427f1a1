import Derived.Test.YtjkkokjojaknkaaDoorG07
namespace Go.Proofs.YtjkkokjojaknkaaDoor
open Go.RowKit

/-! The reader of a code, with the place that it is at: what is drawn hangs on the code alone. -/
structure RdP (w : World) (g : Nat) (a : Option Addr) (n cap : Nat) (bs : List Int) (p : Nat) : Prop where
  le : p ≤ n
  blk : w.heap[g]? = some (.cells #[.slice a n cap, .int .i64 p] 76 (0, 0))
  row : Row w a n bs
  sep : In a n 0 g
  len : n ≤ 1000000000
theorem RdP.lt {w : World} {g : Nat} {a : Option Addr} {n cap : Nat} {bs : List Int} {p : Nat} (h : RdP w g a n cap bs p) : g < w.heap.size := (Array.getElem?_eq_some_iff.1 h.blk).1
theorem RdP.touch {w w' : World} {g : Nat} {a : Option Addr} {n cap : Nat} {bs : List Int} {p : Nat} (h : RdP w g a n cap bs p) {lo hi : Nat} (ht : Touch lo hi w w') (hg : g < lo) : RdP w' g a n cap bs p :=
  ⟨h.le, (ht.block g h.lt (.inl hg)).trans h.blk, h.row.touch h.sep (.inl (by omega)) ht, h.sep, h.len⟩
theorem RdP.kept {w w' : World} {g : Nat} {a : Option Addr} {n cap : Nat} {bs : List Int} {p : Nat} (h : RdP w g a n cap bs p) (hb : Below w.heap.size w w') : RdP w' g a n cap bs p :=
  ⟨h.le, (hb.block g h.lt).trans h.blk, h.row.kept hb, h.sep, h.len⟩
/-- What a reader's methods leave: at p, and only its own block turned. -/
def RdQ (w : World) (g : Nat) (a : Option Addr) (n cap : Nat) (bs : List Int) (p : Nat) (w' : World) : Prop := RdP w' g a n cap bs p ∧ Touch g (g + 1) w w'
theorem RdQ.step {w w1 w2 : World} {g : Nat} {a : Option Addr} {n cap : Nat} {bs : List Int} {p q : Nat} (h : RdQ w g a n cap bs p w1) (k : RdQ w1 g a n cap bs q w2) : RdQ w g a n cap bs q w2 := ⟨k.1, h.2.trans k.2⟩
theorem RdQ.keptQ {w w1 w2 : World} {g : Nat} {a : Option Addr} {n cap : Nat} {bs : List Int} {p : Nat} (h : RdQ w g a n cap bs p w1) (hb : Below w1.heap.size w1 w2) : RdQ w g a n cap bs p w2 :=
  ⟨h.1.kept hb, ⟨hb.os.trans h.2.os, hb.tape.trans h.2.tape, hb.output.trans h.2.output, Nat.le_trans h.2.size hb.size, fun k hk ho => (hb.block k (Nat.lt_of_lt_of_le hk h.2.size)).trans (h.2.block k hk ho)⟩⟩
theorem RdQ.allocQ {w w1 : World} {g : Nat} {a : Option Addr} {n cap : Nat} {bs : List Int} {p : Nat} (h : RdQ w g a n cap bs p w1) (o : Obj) : RdQ w g a n cap bs p (w1.alloc o) := h.keptQ ((Below.refl _ _).alloc (Nat.le_refl _) o)
theorem RdQ.grownQ {w w1 w2 : World} {g : Nat} {a : Option Addr} {n cap : Nat} {bs : List Int} {p : Nat} {lo hi : Nat} (h : RdQ w g a n cap bs p w1) (ht : Touch lo hi w1 w2) (hg : g < lo) (hlo : w.heap.size ≤ lo) : RdQ w g a n cap bs p w2 :=
  ⟨h.1.touch ht hg, ⟨ht.os.trans h.2.os, ht.tape.trans h.2.tape, ht.output.trans h.2.output, Nat.le_trans h.2.size ht.size, fun k hk ho => (ht.block k (Nat.lt_of_lt_of_le hk h.2.size) (.inl (by omega))).trans (h.2.block k hk ho)⟩⟩
theorem RdQ.same {w : World} {g : Nat} {a : Option Addr} {n cap : Nat} {bs : List Int} {p : Nat} (h : RdP w g a n cap bs p) : RdQ w g a n cap bs p w := ⟨h, Touch.same _ _ _⟩

/-- The place behind one byte more. -/
def nxP (bs : List Int) (p : Nat) : Nat := if p < bs.length then p + 1 else p
def bwV (bs : List Int) (m p : Nat) : Nat := if m ≤ 1 then 0 else if m ≤ 256 then (bs.getD p 0).toNat % m else ((bs.getD p 0).toNat * 256 + (bs.getD (nxP bs p) 0).toNat) % m
def bwP (bs : List Int) (m p : Nat) : Nat := if m ≤ 1 then p else if m ≤ 256 then nxP bs p else nxP bs (nxP bs p)
theorem bwV_lt (bs : List Int) (m p : Nat) (hm : 1 ≤ m) : bwV bs m p < m := by
  unfold bwV
  split
  · omega
  · split <;> exact Nat.mod_lt _ (by omega)
/-- Whether it is one of m. -/
def onV (bs : List Int) (m p : Nat) : Bool := decide ((bwV bs m p : Int) = (m : Int) - 1)
def byV (bs : List Int) : Nat → Nat → List Int
  | 0, _ => []
  | k + 1, p => bs.getD p 0 :: byV bs k (nxP bs p)
def byP (bs : List Int) : Nat → Nat → Nat
  | 0, p => p
  | k + 1, p => byP bs k (nxP bs p)
theorem byV_len (bs : List Int) : ∀ k p, (byV bs k p).length = k := by
  intro k
  induction k with
  | zero => intro p; rfl
  | succ k ih => intro p; simp only [byV, List.length_cons, ih]
/-- Bytes, m of them at most. -/
def bysV (bs : List Int) (m p : Nat) : List Int := byV bs (bwV bs (m + 1) p) (bwP bs (m + 1) p)
def bysP (bs : List Int) (m p : Nat) : Nat := byP bs (bwV bs (m + 1) p) (bwP bs (m + 1) p)

set_option maxRecDepth 10000 in
set_option maxHeartbeats 1000000 in
theorem next_p (g : Nat) (a : Option Addr) (n cap : Nat) (bs : List Int) (p : Nat) (w : World) (h : RdP w g a n cap bs p) :
    Calls Tryd.prog 53 #[.pointer (some ⟨g, 0, none⟩)] w fun e w' => e = .returned (.int .i64 (bs.getD p 0)) ∧ RdQ w g a n cap bs (nxP bs p) w' := by
  have hb := h.blk
  have hp := h.le
  have hn := h.len
  have hl := h.row.len
  have c0 := rd_cell0 hb
  have c1 := rd_cell1 hb
  have f1 := rd_frozen hb 1
  have H : Hid (RdP w g a n cap bs p) := h
  clear h hb
  by_cases hlt : p < n
  · obtain ⟨b, off, rfl, hbb, hc⟩ := H.out.row.get p hlt
    have hbg : b < g := (H.out.sep b off rfl (by omega)).2
    have hbne : b ≠ g := by omega
    obtain ⟨x, hx⟩ : ∃ x, x = bs.getD p 0 := ⟨_, rfl⟩
    have hxb := H.out.row.byte p
    rw [← hx] at hc hxb ⊢
    obtain ⟨hx0, hx1⟩ := hxb
    clear hx
    have hlti : (p : Int) < (n : Int) := by omega
    have HP : Hid (nxP bs p = p + 1) := by show _ = _; unfold nxP; rw [if_pos (by omega)]
    clear hl
    go_enter Tryd.func53, Tryd.ntmps53
    go_wp2
    go_quiet (fail)
    go_wp2
    go_quiet (fail)
    go_wp2
    go_ret
    rw [HP.out]
    refine ⟨rfl, ⟨hlt, ?_, H.out.row.touch H.out.sep (.inl (Nat.le_refl _)) (rd_step_touch w g _ _ _), H.out.sep, H.out.len⟩, rd_step_touch _ _ _ _ _⟩
    exact heap_setCell_same (w.drewN _) g 1 #[.slice (some ⟨b, off, none⟩) n cap, .int .i64 p] 76 (.int .i64 ((p : Int) + 1)) H.out.blk
  · have hge : (n : Int) ≤ (p : Int) := by omega
    have HP : Hid (nxP bs p = p ∧ bs.getD p 0 = 0) := ⟨by unfold nxP; rw [if_neg (by omega)], by rw [List.getD_eq_getElem?_getD, List.getElem?_eq_none (by omega)]; rfl⟩
    clear hl
    go_enter Tryd.func53, Tryd.ntmps53
    go_wp2
    go_quiet (fail)
    go_wp2
    go_ret
    rw [HP.out.1, HP.out.2]
    exact ⟨rfl, H.out.kept (below_drewN (Below.refl _ _) nq), (Touch.same _ _ _).drewN nq⟩

set_option maxRecDepth 10000 in
set_option maxHeartbeats 1000000 in
theorem below_p (g : Nat) (a : Option Addr) (n cap : Nat) (bs : List Int) (m : Nat) (p : Nat) (w : World) (h : RdP w g a n cap bs p) (hm : m ≤ 100000) :
    Calls Tryd.prog 35 #[.pointer (some ⟨g, 0, none⟩), .int .i64 (m : Int)] w fun e w' => e = .returned (.int .i64 (bwV bs m p : Int)) ∧ RdQ w g a n cap bs (bwP bs m p) w' := by
  have H : Hid (RdP w g a n cap bs p) := h
  have hby := h.row.byte
  clear h
  by_cases h1 : m ≤ 1
  · have h1i : (m : Int) ≤ 1 := by omega
    have HV : Hid (bwV bs m p = 0 ∧ bwP bs m p = p) := ⟨by unfold bwV; rw [if_pos h1], by unfold bwP; rw [if_pos h1]⟩
    go_enter Tryd.func35, Tryd.ntmps35
    go_wp2
    go_ret
    rw [HV.out.1, HV.out.2]
    exact ⟨rfl, H.out, Touch.same _ _ _⟩
  · have h1i : ¬ (m : Int) ≤ 1 := by omega
    obtain ⟨x, hx⟩ : ∃ x, bs.getD p 0 = (x : Nat) := ⟨(bs.getD p 0).toNat, by have := hby p; omega⟩
    have hx255 : x ≤ 255 := by have := hby p; omega
    by_cases h2 : m ≤ 256
    · have h2i : (m : Int) ≤ 256 := by omega
      have HV : Hid (bwV bs m p = x % m ∧ bwP bs m p = nxP bs p) := ⟨by unfold bwV; rw [if_neg h1, if_pos h2, hx, Int.toNat_natCast], by unfold bwP; rw [if_neg h1, if_pos h2]⟩
      have HN := next_p g a n cap bs p w H.out
      rw [hx] at HN
      clear hby hx
      go_enter Tryd.func35, Tryd.ntmps35
      go_wp2_with fail
      refine HN.mono ?_
      rintro e w1 ⟨rfl, hr1⟩
      go_wp2
      go_ret
      rw [HV.out.1, HV.out.2]
      exact ⟨by go_num, hr1⟩
    · have h2i : ¬ (m : Int) ≤ 256 := by omega
      obtain ⟨y, hy⟩ : ∃ y, bs.getD (nxP bs p) 0 = (y : Nat) := ⟨(bs.getD (nxP bs p) 0).toNat, by have := hby (nxP bs p); omega⟩
      have hy255 : y ≤ 255 := by have := hby (nxP bs p); omega
      have HV : Hid (bwV bs m p = (x * 256 + y) % m ∧ bwP bs m p = nxP bs (nxP bs p)) := ⟨by unfold bwV; rw [if_neg h1, if_neg h2, hx, hy, Int.toNat_natCast, Int.toNat_natCast], by unfold bwP; rw [if_neg h1, if_neg h2]⟩
      have HN := next_p g a n cap bs p w H.out
      have HM := fun W (hW : RdP W g a n cap bs (nxP bs p)) => next_p g a n cap bs (nxP bs p) W hW
      rw [hx] at HN
      rw [hy] at HM
      clear hby hx hy
      go_enter Tryd.func35, Tryd.ntmps35
      go_wp2_with fail
      refine HN.mono ?_
      rintro e w1 ⟨rfl, hr1⟩
      go_wp2_with fail
      refine (HM w1 hr1.1).mono ?_
      rintro e w2 ⟨rfl, hr2⟩
      go_wp2
      go_ret
      rw [HV.out.1, HV.out.2]
      exact ⟨by go_num, hr1.step hr2⟩

set_option maxRecDepth 10000 in
set_option maxHeartbeats 400000 in
theorem once_p (g : Nat) (a : Option Addr) (n cap : Nat) (bs : List Int) (m : Nat) (p : Nat) (w : World) (h : RdP w g a n cap bs p) (hm : m ≤ 100000) :
    Calls Tryd.prog 33 #[.pointer (some ⟨g, 0, none⟩), .int .i64 (m : Int)] w fun e w' => e = .returned (.bool (onV bs m p)) ∧ RdQ w g a n cap bs (bwP bs m p) w' := by
  have H : Hid (RdP w g a n cap bs p) := h
  have HV : Hid (onV bs m p = decide ((bwV bs m p : Int) = (m : Int) - 1)) := rfl
  clear h
  have HB := below_p g a n cap bs m p w H.out hm
  obtain ⟨v, hv⟩ : ∃ v, v = bwV bs m p := ⟨_, rfl⟩
  rw [← hv] at HB HV
  clear hv
  go_enter Tryd.func33, Tryd.ntmps33
  go_wp2_with fail
  refine HB.mono ?_
  rintro e w1 ⟨rfl, hp⟩
  go_wp2
  go_ret
  rw [HV.out]
  exact ⟨by congr 2, hp⟩

theorem byV_snoc (bs : List Int) : ∀ k p, byV bs (k + 1) p = byV bs k p ++ [bs.getD (byP bs k p) 0] := by
  intro k
  induction k with
  | zero => intro p; rfl
  | succ k ih => intro p; rw [byV, ih]; rfl
theorem byP_snoc (bs : List Int) : ∀ k p, byP bs (k + 1) p = nxP bs (byP bs k p) := by
  intro k
  induction k with
  | zero => intro p; rfl
  | succ k ih => intro p; rw [byP, ih]; rfl

set_option maxRecDepth 10000 in
set_option maxHeartbeats 1000000 in
theorem bytes_p (g : Nat) (a : Option Addr) (n cap : Nat) (bs : List Int) (m : Nat) (p : Nat) (w : World) (h : RdP w g a n cap bs p) (hm : m ≤ 1000) :
    Calls Tryd.prog 50 #[.pointer (some ⟨g, 0, none⟩), .int .i64 (m : Int)] w fun e w' => ∃ (a' : Option Addr) (c' : Nat), e = .returned (.slice a' (bysV bs m p).length c') ∧ Own w.heap.size w' a' (bysV bs m p).length c' (bysV bs m p) ∧ RdQ w g a n cap bs (bysP bs m p) w' := by
  obtain ⟨i0, hi, hz0, hz1, hz2⟩ := info_parts Tryd.info5
  have H : Hid (RdP w g a n cap bs p) := h
  have hgw := h.lt
  have HB := below_p g a n cap bs (m + 1) p w h (by omega)
  have hu := bwV_lt bs (m + 1) p (by omega)
  have HBY : Hid (∀ i, 0 ≤ bs.getD i 0 ∧ bs.getD i 0 ≤ 255) := h.row.byte
  clear h
  obtain ⟨u, hue⟩ : ∃ u, u = bwV bs (m + 1) p := ⟨_, rfl⟩
  obtain ⟨q, hqe⟩ : ∃ q, q = bwP bs (m + 1) p := ⟨_, rfl⟩
  have HV : Hid (bysV bs m p = byV bs u q ∧ bysP bs m p = byP bs u q) := ⟨by rw [hue, hqe]; rfl, by rw [hue, hqe]; rfl⟩
  rw [← hue, ← hqe, Int.natCast_add] at HB
  rw [← hue] at hu
  clear hue hqe
  go_enter Tryd.func50, Tryd.ntmps50
  go_wp2_with fail
  refine HB.mono ?_
  rintro e w1 ⟨rfl, hp1⟩
  have hs1 := hp1.2.size
  have hoe : Own w.heap.size (w1.alloc (.cells #[] 5)) (some ⟨w1.heap.size, 0, none⟩) 0 0 [] := ⟨World.ownsRow_lit w1 #[] 0 hs1 (Nat.zero_le _) rfl, by simp⟩
  have hpe := hp1.allocQ (.cells #[] 5)
  clear hp1
  go_wp2
  go_loopw [6, 7] (fun o i wr => ∃ (k c' : Nat) (a' : Option Addr), k ≤ u ∧ i = .int .i64 k ∧ o = .slice a' k c' ∧ Own w.heap.size wr a' k c' (byV bs k q) ∧ RdQ w g a n cap bs (byP bs k q) wr) (fun _ i _ => u - (intOf i).toNat)
  case atStart => exact ⟨0, 0, _, Nat.zero_le _, rfl, rfl, hoe, hpe⟩
  case round =>
    obtain ⟨k, c', a', hk, rfl, rfl, hor, hpr⟩ := hrel
    have hsr := hpr.2.size
    by_cases hlt : k < u
    · have HN := next_p g a n cap bs _ _ hpr.1
      obtain ⟨x, hx⟩ : ∃ x, x = bs.getD (byP bs k q) 0 := ⟨_, rfl⟩
      have hxb := HBY.out (byP bs k q)
      have HVS : Hid (byV bs (k + 1) q = byV bs k q ++ [x] ∧ byP bs (k + 1) q = nxP bs (byP bs k q)) := ⟨by rw [byV_snoc, hx], byP_snoc _ _ _⟩
      rw [← hx] at HN hxb
      obtain ⟨hx0, hx1⟩ := hxb
      clear hx
      obtain ⟨xs, hxs⟩ : ∃ xs, xs = byV bs k q := ⟨_, rfl⟩
      rw [← hxs] at hor HVS
      clear hxs
      go_wp2_with fail
      refine HN.mono ?_
      rintro e w2 ⟨rfl, hq2⟩
      have hor2 := hor.touched hq2.2 (by omega)
      have hp2 := hpr.step hq2
      have hs2 := hq2.2.size
      clear hor hpr hq2
      go_wp2_with (at_builtin; refine wpList_append_own _ rfl _ _ 22 rfl w.heap.size 5 i0 (.int .u8 0) 1 1 Tryd.underlying22 hi hz0 hz1 hz2 rfl (by decide) _ _ _ rfl (hor2.row.alloc _) ⟨w2.heap.size, 0, none⟩ 1 1 [_] rfl rfl (cell_one_new _ _ _) (by intro u hu; simp at hu; subst hu; rfl) (by unfold maxLen; omega) (by omega) (by simp; omega) ?_; intro v' w3 hown' hgrow' _)
      obtain ⟨a3, c3, rfl, ho3⟩ := own_appended (ys := [x]) hown' hor2.byte (by simpa using snoc_byte (xs := []) (by simp) x ⟨hx0, hx1⟩)
      have hT : Touch w.heap.size (w2.heap.size + 1) (w2.alloc (.cells #[.int .u8 x] 5)) w3 := touch_grown hgrow' (fun k hk => by have := (hor2.row.lt k hk); omega)
      have hp3 := (hp2.allocQ (.cells #[.int .u8 x] 5)).grownQ hT hgw (Nat.le_refl _)
      go_roundw
      case rel => exact ⟨k + 1, c3, a3, by omega, by go_num, rfl, by rw [HVS.out.1]; exact ho3, by rw [HVS.out.2]; exact hp3⟩
      case measure => simp [intOf]; omega
    · have hku : k = u := by omega
      subst hku
      go_wp2
      go_ret
      rw [HV.out.1, HV.out.2, byV_len]
      exact ⟨a', c', rfl, hor, hpr⟩

end Go.Proofs.YtjkkokjojaknkaaDoor
