import Derived.Test.YtdkgilkjcndonaaPL8b
namespace Go.Proofs.Ytdkgilkjcndonaa
open Go.RowKit

theorem cell_one64P (w : World) (x : Int) : ∀ jj uu, ([x].map (Value.int .i64))[jj]? = some uu → (w.alloc (.cells #[.int .i64 x] 2)).cell? ((⟨w.heap.size, 0, none⟩ : Addr).add jj) = some uu := by
  intro jj uu hju
  rw [Addr.add_lit, Nat.zero_add, cell_of_row _ w.heap.size jj _ 2 _ (heap_alloc_new w _), ← hju]
  simp
/-- Numbers of our own, from B on. -/
structure OwnL (B : Nat) (w : World) (a : Option Addr) (n cap : Nat) (zs : List Int) : Prop where
  row : w.ownsRow B 2 1 (.slice a n cap) n (zs.map (Value.int .i64))
theorem OwnL.len {B : Nat} {w : World} {a : Option Addr} {n cap : Nat} {zs : List Int} (h : OwnL B w a n cap zs) : zs.length = n := by simpa using h.row.1
theorem OwnL.kept {B : Nat} {w w' : World} {a : Option Addr} {n cap : Nat} {zs : List Int} (h : OwnL B w a n cap zs) (hb : Below w.heap.size w w') : OwnL B w' a n cap zs := ⟨ownsRow_below h.row hb⟩
theorem OwnL.toRow {B : Nat} {w : World} {a : Option Addr} {n cap : Nat} {zs : List Int} (h : OwnL B w a n cap zs) : Row64 w a n zs := by
  refine ⟨h.len, fun k hk => ?_⟩
  rcases h.row.2 with ⟨_, h0⟩ | ⟨g, cap', cur, hv, hb, hg, _⟩
  · omega
  · simp only [Value.slice.injEq] at hv
    obtain ⟨rfl, _, _⟩ := hv
    refine ⟨g, 0, rfl, (Array.getElem?_eq_some_iff.1 hg).1, ?_⟩
    rw [Nat.zero_add, World.ownsRow.cellAt h.row k (by omega)]
    have hl := h.len
    simp [show k < zs.length by omega]
theorem ownL_appended {B : Nat} {w : World} {v : Value} {m : Nat} {zs : List Int} (h : w.ownsRow B 2 1 v m (zs.map (Value.int .i64))) : ∃ a cap, v = .slice a m cap ∧ OwnL B w a m cap zs := by
  rcases h.2 with ⟨rfl, rfl⟩ | ⟨g, cap, cur, rfl, _⟩
  · exact ⟨_, _, rfl, ⟨h⟩⟩
  · exact ⟨_, _, rfl, ⟨h⟩⟩
theorem ownL_none (B : Nat) (w : World) : OwnL B w none 0 0 [] := ⟨World.ownsRow_nil _ _ _ _⟩
theorem ownL_one (w : World) (x : Int) : OwnL w.heap.size (w.alloc (.cells #[.int .i64 x] 2)) (some ⟨w.heap.size, 0, none⟩) 1 1 [x] :=
  ⟨World.ownsRow_lit w #[.int .i64 x] 1 (Nat.le_refl _) (by unfold maxLen; omega) rfl⟩
theorem ownL_mono {B B' : Nat} {w : World} {a : Option Addr} {n cap : Nat} {zs : List Int} (h : OwnL B w a n cap zs) (hB : B' ≤ B) : OwnL B' w a n cap zs := by
  refine ⟨h.row.1, ?_⟩
  rcases h.row.2 with hv | ⟨g, cap', cur, hv, hb, r⟩
  · exact .inl hv
  · exact .inr ⟨g, cap', cur, hv, Nat.le_trans hB hb, r⟩
theorem Try.info2P : (Try.prog.info? 2).map (fun i => (i.zero, i.size, i.bytes)) = some (some (.int .i64 0), 1, 8) := by kernel_rfl

set_option maxRecDepth 10000 in
set_option maxHeartbeats 1000000 in
theorem names_any (a1 : Option Addr) (n1 c1 : Nat) (a2 : Option Addr) (n2 c2 : Nat) (x : PC) (q : Int) (w : World) (h : PcAt w a1 n1 c1 a2 n2 x) :
    Calls Try.prog 101 #[pcv a1 n1 c1 a2 n2 c2 x, .int .i64 q] w fun e w' => e = .returned (.bool (decide (q ∈ x.pols))) ∧ Below w.heap.size w w' := by
  have H0 : Hid (PcAt w a1 n1 c1 a2 n2 x) := h
  clear h
  unfold pcv
  have hbl : Below w.heap.size w (w.alloc (.cells #[.slice a1 n1 c1, .slice a2 n2 c2, .bool x.self, .int .i64 x.need, .int .i64 x.nomap, .int .i64 x.noany] 41)) := (Below.refl _ _).alloc (Nat.le_refl _) _
  go_enter Try.func101, Try.ntmps101
  go_wp2_with fail
  refine (contains_any a1 n1 c1 x.pols q _ (H0.out.kept hbl).pol (Nat.le_trans H0.out.le H0.out.max)).mono ?_
  rintro e w1 ⟨rfl, rfl⟩
  obtain ⟨d, hd⟩ : ∃ d, d = decide (q ∈ x.pols) := ⟨_, rfl⟩
  rw [← hd]
  have HD : Hid (d = decide (q ∈ x.pols)) := hd
  clear hd
  go_wp2
  go_ret
  exact ⟨by rw [← HD.out]; rfl, hbl⟩

set_option maxRecDepth 10000 in
set_option maxHeartbeats 1000000 in
theorem isLast_any (ap : Option Addr) (np cp : Nat) (ac : Option Addr) (nc cc bm i : Nat) (w : World) (h1 : 1 ≤ np) (h8 : np ≤ 8) :
    Calls Try.prog 88 #[walkV ap np cp ac nc cc bm, .int .i64 i] w fun e w' => e = .returned (.bool (decide (i + 1 = np))) ∧ Below w.heap.size w w' := by
  unfold walkV
  have hbl : Below w.heap.size w (w.alloc (.cells #[.slice ap np cp, .slice ac nc cc, .map (some bm)] 61)) := (Below.refl _ _).alloc (Nat.le_refl _) _
  have hd : ((i : Int) == (np : Int) - 1) = decide (i + 1 = np) := by
    by_cases h : i + 1 = np
    · rw [decide_eq_true h]; exact beq_iff_eq.2 (by omega)
    · rw [decide_eq_false h]; exact beq_false_of_ne (by omega)
  obtain ⟨d, hdd⟩ : ∃ d, d = decide (i + 1 = np) := ⟨_, rfl⟩
  rw [← hdd] at hd ⊢
  clear hdd
  go_enter Try.func88, Try.ntmps88
  go_wp2
  go_ret
  exact ⟨rfl, hbl⟩

set_option maxRecDepth 10000 in
set_option maxHeartbeats 1000000 in
theorem mapsCount_any (ap : Option Addr) (np cp : Nat) (ac : Option Addr) (nc cc bm i : Nat) (T : Nat → Int × Int × Int) (w : World) (h : Ctrs w ac nc T) (hi : i < nc) :
    Calls Try.prog 103 #[walkV ap np cp ac nc cc bm, .int .i64 i] w fun e w' => e = .returned (.bool (decide (0 < (T i).2.1))) ∧ Below w.heap.size w w' := by
  unfold walkV
  have hmx := h.max
  obtain ⟨b, off, rfl, hlb, h0, h1, h2⟩ := h.get i hi
  obtain ⟨t, ht⟩ : ∃ t, t = (T i).2.1 := ⟨_, rfl⟩
  rw [← ht] at h1 ⊢
  clear ht h0 h2 h
  have hii : (i : Int) < (nc : Int) := by omega
  have hbl : Below w.heap.size w (w.alloc (.cells #[.slice ap np cp, .slice (some ⟨b, off, none⟩) nc cc, .map (some bm)] 61)) := (Below.refl _ _).alloc (Nat.le_refl _) _
  go_enter Try.func103, Try.ntmps103
  go_wp2
  go_ret
  exact ⟨rfl, hbl⟩

set_option maxRecDepth 10000 in
set_option maxHeartbeats 2000000 in
theorem anyCounts_any (ap : Option Addr) (np cp : Nat) (ac : Option Addr) (nc cc bm i : Nat) (xs : List PC) (q0 m0 a0 : Int) (w : World) (h : Ctrs w ac nc (trip xs q0 m0 a0)) (hi : i < nc) (hp : Pcs w ap np xs) (h8 : np ≤ 8) (hin : i < np) :
    Calls Try.prog 102 #[walkV ap np cp ac nc cc bm, .int .i64 i] w fun e w' => e = .returned (.bool (decide (allIn xs a0 i))) ∧ Below w.heap.size w w' := by
  have HL : Hid (xs.length = np) := hp.len
  have hmx := h.max
  have HLS : Hid (∀ W, Calls Try.prog 88 #[.agg #[.slice ap np cp, .slice ac nc cc, .map (some bm)], .int .i64 i] W fun e w' => e = .returned (.bool (decide (i + 1 = np))) ∧ Below W.heap.size W w') := fun W => isLast_any ap np cp ac nc cc bm i W (by omega) h8
  unfold walkV
  obtain ⟨b, off, rfl, hlb, h0, h1, h2⟩ := h.get i hi
  obtain ⟨t, ht⟩ : ∃ t, t = (trip xs q0 m0 a0 i).2.2 := ⟨_, rfl⟩
  rw [← ht] at h2
  have HT : Hid (t = ctr PC.noany a0 xs i) := ht
  obtain ⟨b', off', a1, n1, d1, a2, n2, d2, rfl, hlb', hc, hpc⟩ := hp.get i hin
  obtain ⟨sf, hsf⟩ : ∃ sf, sf = (xs.getD i default).self := ⟨_, rfl⟩
  have k2 := hc.c2
  rw [← hsf] at k2
  have HSF : Hid (sf = (xs.getD i default).self) := hsf
  clear ht h0 h1 h hsf hc hpc hp
  have hii : (i : Int) < (nc : Int) := by omega
  have hin' : (i : Int) < (np : Int) := by omega
  obtain ⟨w0, hw0⟩ : ∃ w0, w0 = w.alloc (.cells #[.slice (some ⟨b', off', none⟩) np cp, .slice (some ⟨b, off, none⟩) nc cc, .map (some bm)] 61) := ⟨_, rfl⟩
  have hbl : Below w.heap.size w w0 := by rw [hw0]; exact (Below.refl _ _).alloc (Nat.le_refl _) _
  by_cases hpos : 0 < t
  · have HD : Hid (decide (allIn xs a0 i) = true) := decide_eq_true (.inl (by rw [← HT.out]; exact hpos))
    rw [HD.out]
    go_enter Try.func102, Try.ntmps102
    go_wp2
    go_ret
    rw [← hw0]
    exact ⟨rfl, hbl⟩
  · cases sf with
    | false =>
      have HD : Hid (decide (allIn xs a0 i) = false) := decide_eq_false (fun h => by
        rcases h with h | h
        · exact hpos (by rw [HT.out]; exact h)
        · rw [← HSF.out] at h; exact absurd h.1 (by decide))
      rw [HD.out]
      go_enter Try.func102, Try.ntmps102
      go_wp2
      go_ret
      rw [← hw0]
      exact ⟨rfl, hbl⟩
    | true =>
      have HD : Hid (decide (allIn xs a0 i) = !decide (i + 1 = np)) := by
        show _ = _
        by_cases e : i + 1 = np
        · rw [decide_eq_true e]
          exact decide_eq_false (fun h => by
            rcases h with h | h
            · exact hpos (by rw [HT.out]; exact h)
            · exact h.2 (by rw [HL.out]; exact e))
        · rw [decide_eq_false e]
          exact decide_eq_true (.inr ⟨HSF.out.symm, by rw [HL.out]; exact e⟩)
      rw [HD.out]
      obtain ⟨dl, hdl⟩ : ∃ dl, dl = decide (i + 1 = np) := ⟨_, rfl⟩
      rw [← hdl] at HLS ⊢
      clear hdl HD
      go_enter Try.func102, Try.ntmps102
      go_wp2_with fail
      rw [← hw0]
      clear hw0
      refine (HLS.out _).mono ?_
      rintro e w1 ⟨rfl, hb1⟩
      have B1 : Below w.heap.size w w1 := keepP hbl hb1
      go_wp2
      go_ret
      exact ⟨rfl, B1⟩

end Go.Proofs.Ytdkgilkjcndonaa
