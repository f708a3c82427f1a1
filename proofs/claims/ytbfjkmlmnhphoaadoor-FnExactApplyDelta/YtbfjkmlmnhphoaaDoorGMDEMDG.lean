import Derived.Test.YtbfjkmlmnhphoaaDoorMDD
set_option linter.unusedVariables false
namespace Go.Proofs.YtbfjkmlmnhphoaaDoor
open Go.RowKit Go.Sort

/-- Parts as they lie in a row. -/
def flPt (xs : List PT) : List Value := xs.flatMap fun x => [Value.int .i64 x.attr, .string x.val]
theorem flPt_cons (p : PT) (r : List PT) : flPt (p :: r) = Value.int .i64 p.attr :: .string p.val :: flPt r := rfl
theorem flPt_len (ps : List PT) : (flPt ps).length = ps.length * 2 := by
  induction ps with
  | nil => rfl
  | cons p r ih => rw [flPt_cons]; simp [ih]; omega
theorem flPt_get (ps : List PT) : ∀ k, k < ps.length → (flPt ps)[k * 2]? = some (.int .i64 (ps.getD k default).attr) ∧ (flPt ps)[k * 2 + 1]? = some (.string (ps.getD k default).val) := by
  induction ps with
  | nil => intro k h; simp at h
  | cons p r ih =>
    intro k h
    cases k with
    | zero => simp [flPt_cons]
    | succ k =>
      have := ih k (by simpa using h)
      rw [flPt_cons, show (k + 1) * 2 = k * 2 + 1 + 1 by omega]
      simpa using this
theorem flPt_one (ps : List PT) : ∀ u ∈ flPt ps, u.oneCell' = true := by
  induction ps with
  | nil => intro u hu; simp [flPt] at hu
  | cons p r ih =>
    intro u hu
    rw [flPt_cons] at hu
    simp only [List.mem_cons] at hu
    rcases hu with rfl | rfl | hu
    · rfl
    · rfl
    · exact ih u hu
theorem newsPt {w : World} {b off n : Nat} {ps : List PT} (h : Pts w (some ⟨b, off, none⟩) n ps) : ∀ j u, (flPt ps)[j]? = some u → w.cell? ((⟨b, off, none⟩ : Addr).add j) = some u := by
  intro j u hu
  have hl := h.len
  have hj : j < n * 2 := by have := (List.getElem?_eq_some_iff.1 hu).1; rw [flPt_len, hl] at this; exact this
  obtain ⟨b', off', ha, hlt, hc, _⟩ := h.get (j / 2) (by omega)
  simp only [Option.some.injEq, Addr.mk.injEq, and_true] at ha
  obtain ⟨rfl, rfl⟩ := ha
  have hf := flPt_get ps (j / 2) (by omega)
  rw [Addr.add_lit]
  have hd : j = j / 2 * 2 + j % 2 := by omega
  have hm : j % 2 < 2 := by omega
  generalize j / 2 = k at hd hf hc
  generalize j % 2 = i at hd hm
  subst hd
  show w.cell? ⟨b, off + (k * 2 + i), none⟩ = _
  rw [← Nat.add_assoc, ← hu]
  rcases (show i = 0 ∨ i = 1 by omega) with rfl | rfl
  · exact hc.c0.trans hf.1.symm
  · exact hc.c1.trans hf.2.symm
/-- A row of our own reads as its parts. -/
theorem pts_of_row {B : Nat} {w : World} {a : Option Addr} {n c : Nat} {ps : List PT} (h : w.ownsRow B 107 2 (.slice a n c) n (flPt ps)) (hl : ps.length = n) (hn : n ≤ 9223372036854775807) (hs : ∀ k, k < n → (ps.getD k default).val.size ≤ 9223372036854775807) : Pts w a n ps := by
  refine ⟨hl, hn, fun k hk => ?_⟩
  obtain ⟨g, rfl, _, hg⟩ := ownsRow_shape h (by omega)
  obtain ⟨f0, f1⟩ := flPt_get ps k (by omega)
  exact ⟨g, 0, rfl, hg, ⟨by rw [Nat.zero_add]; exact (h.cellAt (k * 2) (by omega)).trans f0, by rw [Nat.zero_add]; exact (h.cellAt (k * 2 + 1) (by omega)).trans f1⟩, hs k hk⟩
theorem owns_shapeP {w : World} {B e s n : Nat} {v : Value} {xs : List Value} (h : w.ownsRow B e s v n xs) : ∃ a c, v = .slice a n c := by
  rcases h.2 with ⟨rfl, rfl⟩ | ⟨g, cap, cur, rfl, _⟩
  · exact ⟨_, _, rfl⟩
  · exact ⟨_, _, rfl⟩

set_option maxRecDepth 10000 in
set_option maxHeartbeats 1000000 in
theorem clonePt_any (a : Option Addr) (n cap : Nat) (ps : List PT) (w : World) (h : Pts w a n ps) (hnil : a = none → cap = 0) (hn : n ≤ 1048576) :
    Calls Tryd.prog 106 #[.slice a n cap] w fun e w' => ∃ a' cap', e = .returned (.slice a' n cap') ∧ w'.ownsRow w.heap.size 107 2 (.slice a' n cap') n (flPt ps) ∧ (a' = none → cap' = 0) ∧ Below w.heap.size w w' := by
  obtain ⟨i0, hi, hz0, hz1, hz2⟩ := info_parts Tryd.infoPart
  cases a with
  | none =>
    have hz : n = 0 := by
      by_cases h0 : 0 < n
      · obtain ⟨_, _, h1, _⟩ := h.get 0 h0
        cases h1
      · omega
    subst hz
    obtain rfl := hnil rfl
    have hps : ps = [] := List.eq_nil_of_length_eq_zero h.len
    subst hps
    clear h
    have he : ∀ w : World, (binOp .eql 31 (.slice none 0 0) (.slice none 0 0)).run Tryd.prog w = .ok (.bool true) w := fun _ => rfl
    go_enter Tryd.func106, Tryd.ntmps106
    go_wp2
    go_ret
    exact ⟨none, 0, rfl, World.ownsRow_nil _ _ _ _, fun _ => rfl, Below.refl _ _⟩
  | some ad =>
    have hB1 : Below w.heap.size w (w.alloc (.cells #[] 107)) := (Below.refl _ _).alloc (Nat.le_refl _) _
    have HO : Hid ((w.alloc (.cells #[] 107)).ownsRow w.heap.size 107 2 (.slice (some ⟨w.heap.size, 0, none⟩) 0 0) 0 []) := ⟨rfl, .inr ⟨w.heap.size, 0, #[], rfl, Nat.le_refl _, heap_alloc_new w _, Nat.le_refl _, by decide, rfl, rfl⟩⟩
    have HR : Hid (Pts (w.alloc (.cells #[] 107)) (some ad) n ps) := h.kept hB1
    have HN : Hid (∀ j u, (flPt ps)[j]? = some u → (w.alloc (.cells #[] 107)).cell? (ad.add j) = some u) := by
      by_cases h0 : 0 < n
      · obtain ⟨b, off, ha, _⟩ := HR.out.get 0 h0
        injection ha with ha
        subst ha
        exact newsPt HR.out
      · intro j u hu
        have := (List.getElem?_eq_some_iff.1 hu).1
        rw [flPt_len, HR.out.len] at this
        omega
    have HL : Hid ((flPt ps).length = n * 2) := by show _ = _; rw [flPt_len, HR.out.len]
    clear h
    have he : ∀ w : World, (binOp .eql 31 (.slice (some ad) n cap) (.slice none 0 0)).run Tryd.prog w = .ok (.bool false) w := fun _ => rfl
    go_enter Tryd.func106, Tryd.ntmps106
    go_wp2_with (at_builtin; refine wpList_append_own _ rfl (.tmp 5) (.tmp 6) 31 rfl w.heap.size 107 i0 _ 2 24 Tryd.underlying31 hi hz0 hz1 hz2 rfl (by decide) _ 0 [] rfl HO.out ad n cap (flPt ps) rfl HL.out HN.out (flPt_one ps) (by unfold maxLen; omega) (by omega) hB1.size ?_; intro v1 w1 hv1 hg1 _; rw [Nat.zero_add, List.nil_append] at hv1; have hnc : ∀ c, v1 = .slice none n c → c = 0 := (fun c e => by rcases hv1.2 with ⟨q, _⟩ | ⟨g, c', cur, q, _⟩ <;> rw [e] at q <;> simp only [Value.slice.injEq] at q <;> simp_all); obtain ⟨a1, c1, rfl⟩ := owns_shapeP hv1; have hb1 : Below w.heap.size w w1 := hB1.grown hg1 hB1.size (fun j hj => (HO.out.lt j hj).1))
    go_ret
    exact ⟨a1, c1, rfl, hv1, fun e => hnc c1 (by rw [e]), hb1⟩

end Go.Proofs.YtbfjkmlmnhphoaaDoor

set_option linter.unusedVariables false
namespace Go.Proofs.YtbfjkmlmnhphoaaDoor
open Go.RowKit Go.Sort

set_option maxRecDepth 10000 in
set_option maxHeartbeats 1000000 in
theorem cloneName_any (a : Option Addr) (n cap : Nat) (ps : List PT) (w : World) (h : Pts w a n ps) (hnil : a = none → cap = 0) (hn : n ≤ 1048576) :
    Calls Tryd.prog 94 #[.agg #[.slice a n cap]] w fun e w' => ∃ a' cap', e = .returned (.agg #[.slice a' n cap']) ∧ w'.ownsRow (w.heap.size + 2) 107 2 (.slice a' n cap') n (flPt ps) ∧ (a' = none → cap' = 0) ∧ Below w.heap.size w w' := by
  obtain ⟨W0, hW0⟩ : ∃ W0, W0 = (w.alloc (.cells #[.slice a n cap] 33)).alloc (.cells #[.slice none 0 0] 33) := ⟨_, rfl⟩
  have hB0 : Below w.heap.size w W0 := by rw [hW0]; exact two_below _ _ _
  have hS0 : W0.heap.size = w.heap.size + 2 := by rw [hW0]; simp
  have b0 := two_blocks w (.cells #[.slice a n cap] 33) (.cells #[.slice none 0 0] 33)
  rw [← hW0] at b0
  have x0 : W0.cell? ⟨w.heap.size, 0, none⟩ = some (.slice a n cap) := (cell_of_row _ _ 0 _ _ (0, 0) b0.1).trans rfl
  have M := clonePt_any a n cap ps W0 (h.kept hB0) hnil hn
  have HW : Hid (_ = _) := hW0
  clear hW0 h
  go_enter Tryd.func94, Tryd.ntmps94
  go_upto_region 1 with fail
  rw [← HW.out]
  clear HW
  go_wp2_with fail
  refine M.mono ?_
  rintro e w1 ⟨a1, c1, rfl, ho, hc1, hb1⟩
  have b1 : w1.heap[w.heap.size + 1]? = _ := (hb1.block (w.heap.size + 1) (by omega)).trans b0.2
  have y1 : w1.cell? ⟨w.heap.size + 1, 0, none⟩ = some (.slice none 0 0) := (cell_of_row _ _ 0 _ _ (0, 0) b1).trans rfl
  have f1 : w1.frozen? ⟨w.heap.size + 1, 0, none⟩ = false := frozen_of_row w1 (w.heap.size + 1) 0 _ 33 b1
  have q1 := heap_setCell_same w1 (w.heap.size + 1) 0 _ 33 (.slice a1 n c1) b1
  have tt : TouchS (fun i => i = w.heap.size + 1) w1 (w1.setCell ⟨w.heap.size + 1, 0, none⟩ (.slice a1 n c1)) := TouchS.set _ _ _ _ rfl
  have HO : Hid ((w1.setCell ⟨w.heap.size + 1, 0, none⟩ (.slice a1 n c1)).ownsRow (w.heap.size + 2) 107 2 (.slice a1 n c1) n (flPt ps)) := ownsRow_keepS (by rw [← hS0]; exact ho) tt (fun g _ hg q => by omega)
  have hBz := hB0.trans (hb1.mono hB0.size)
  have HB : Hid (Below w.heap.size w (w1.setCell ⟨w.heap.size + 1, 0, none⟩ (.slice a1 n c1))) := ⟨tt.os.trans hBz.os, tt.tape.trans hBz.tape, tt.output.trans hBz.output, Nat.le_trans hBz.size tt.size, fun l hl => (tt.block l (by have := hBz.size; omega) (by omega)).trans (hBz.block l hl)⟩
  have HQ : Hid (_ = _) := q1
  clear M ho b0 b1 q1 tt hBz x0
  go_wp2
  try simp only [Exit.inBlock, Exit.then]
  exact bodyPost_ret (results_nm rfl _ (w.heap.size + 1) rfl _ _ HQ.out) rfl ⟨a1, c1, rfl, HO.out, hc1, HB.out⟩

end Go.Proofs.YtbfjkmlmnhphoaaDoor

set_option linter.unusedVariables false
namespace Go.Proofs.YtbfjkmlmnhphoaaDoor
open Go.RowKit Go.Sort

set_option maxRecDepth 10000 in
set_option maxHeartbeats 2000000 in
theorem cloneGone_any (a : Option Addr) (n cap : Nat) (x : GP) (w : World) (h : Pts w a n x.parts) (hnil : a = none → cap = 0) (hn : n ≤ 1048576) :
    Calls Tryd.prog 96 #[gov a n cap x] w fun e w' => ∃ a' cap', e = .returned (gov a' n cap' x) ∧ w'.ownsRow w.heap.size 107 2 (.slice a' n cap') n (flPt x.parts) ∧ (a' = none → cap' = 0) ∧ Below w.heap.size w w' := by
  unfold gov
  obtain ⟨W0, hW0⟩ : ∃ W0, W0 = (w.alloc (.cells #[.slice a n cap, .int .i64 x.ser, .int .i64 x.tm, .int .i64 x.rs] 63)).alloc (.cells #[.slice none 0 0, .int .i64 0, .int .i64 0, .int .i64 0] 63) := ⟨_, rfl⟩
  have hB0 : Below w.heap.size w W0 := by rw [hW0]; exact two_below _ _ _
  have hS0 : W0.heap.size = w.heap.size + 2 := by rw [hW0]; simp
  have b0 := two_blocks w (.cells #[.slice a n cap, .int .i64 x.ser, .int .i64 x.tm, .int .i64 x.rs] 63) (.cells #[.slice none 0 0, .int .i64 0, .int .i64 0, .int .i64 0] 63)
  rw [← hW0] at b0
  have x0 : W0.cell? ⟨w.heap.size, 0, none⟩ = some (.slice a n cap) := (cell_of_row _ _ 0 _ _ (0, 0) b0.1).trans rfl
  have M := cloneName_any a n cap x.parts W0 (h.kept hB0) hnil hn
  have HW : Hid (_ = _) := hW0
  clear hW0 h
  go_enter Tryd.func96, Tryd.ntmps96
  go_upto_region 1 with fail
  rw [← HW.out]
  clear HW
  go_wp2_with fail
  refine M.mono ?_
  rintro e w1 ⟨a1, c1, rfl, ho, hc1, hb1⟩
  have hs1 := hb1.size
  have p0 : w1.heap[w.heap.size]? = _ := (hb1.block w.heap.size (by omega)).trans b0.1
  have p1 : w1.heap[w.heap.size + 1]? = _ := (hb1.block (w.heap.size + 1) (by omega)).trans b0.2
  have y0 : w1.cell? ⟨w.heap.size, 0, none⟩ = some (.slice a n cap) := (cell_of_row _ _ 0 _ _ (0, 0) p0).trans rfl
  have f0 : w1.frozen? ⟨w.heap.size, 0, none⟩ = false := frozen_of_row w1 w.heap.size 0 _ 63 p0
  obtain ⟨w2, hw2⟩ : ∃ w2, w2 = w1.setCell ⟨w.heap.size, 0, none⟩ (.slice a1 n c1) := ⟨_, rfl⟩
  have t2 : TouchS (fun i => i = w.heap.size) w1 w2 := by rw [hw2]; exact TouchS.set _ _ _ _ rfl
  have q0 : w2.heap[w.heap.size]? = some (.cells #[.slice a1 n c1, .int .i64 x.ser, .int .i64 x.tm, .int .i64 x.rs] 63 (0, 0)) := by rw [hw2]; exact heap_setCell_same w1 w.heap.size 0 _ 63 (.slice a1 n c1) p0
  have q1 : w2.heap[w.heap.size + 1]? = some (.cells #[.slice none 0 0, .int .i64 0, .int .i64 0, .int .i64 0] 63 (0, 0)) := (t2.block _ (by omega) (by omega)).trans p1
  have o2 : w2.ownsRow (w.heap.size + 4) 107 2 (.slice a1 n c1) n (flPt x.parts) := ownsRow_keepS (by rw [show w.heap.size + 4 = W0.heap.size + 2 by omega]; exact ho) t2 (fun g _ hg q => by omega)
  have hBz := hB0.trans (hb1.mono hB0.size)
  have B2 : Below w.heap.size w w2 := ⟨t2.os.trans hBz.os, t2.tape.trans hBz.tape, t2.output.trans hBz.output, Nat.le_trans hBz.size t2.size, fun l hl => (t2.block l (by have := hBz.size; omega) (by omega)).trans (hBz.block l hl)⟩
  have hz2 : w.heap.size + 2 ≤ w2.heap.size := Nat.le_trans (by omega) t2.size
  have HW2 : Hid (_ = _) := hw2
  clear M ho b0 p0 p1 t2 hw2 hBz x0
  go_upto_region 2 with fail
  rw [← HW2.out]
  clear HW2 y0 f0 hb1 hs1
  have d0 : w2.cell? ⟨w.heap.size, 0, none⟩ = some (.slice a1 n c1) := (cell_of_row _ _ 0 _ _ (0, 0) q0).trans rfl
  have d1 : w2.cell? ⟨w.heap.size, 1, none⟩ = some (.int .i64 x.ser) := (cell_of_row _ _ 1 _ _ (0, 0) q0).trans rfl
  have d2 : w2.cell? ⟨w.heap.size, 2, none⟩ = some (.int .i64 x.tm) := (cell_of_row _ _ 2 _ _ (0, 0) q0).trans rfl
  have d3 : w2.cell? ⟨w.heap.size, 3, none⟩ = some (.int .i64 x.rs) := (cell_of_row _ _ 3 _ _ (0, 0) q0).trans rfl
  have r0 : w2.cell? ⟨w.heap.size + 1, 0, none⟩ = some (.slice none 0 0) := (cell_of_row _ _ 0 _ _ (0, 0) q1).trans rfl
  have r1 : w2.cell? ⟨w.heap.size + 1, 1, none⟩ = some (.int .i64 0) := (cell_of_row _ _ 1 _ _ (0, 0) q1).trans rfl
  have r2 : w2.cell? ⟨w.heap.size + 1, 2, none⟩ = some (.int .i64 0) := (cell_of_row _ _ 2 _ _ (0, 0) q1).trans rfl
  have r3 : w2.cell? ⟨w.heap.size + 1, 3, none⟩ = some (.int .i64 0) := (cell_of_row _ _ 3 _ _ (0, 0) q1).trans rfl
  have f0 : w2.frozen? ⟨w.heap.size + 1, 0, none⟩ = false := frozen_of_row w2 (w.heap.size + 1) 0 _ 63 q1
  have f1 : w2.frozen? ⟨w.heap.size + 1, 1, none⟩ = false := frozen_of_row w2 (w.heap.size + 1) 1 _ 63 q1
  have f2 : w2.frozen? ⟨w.heap.size + 1, 2, none⟩ = false := frozen_of_row w2 (w.heap.size + 1) 2 _ 63 q1
  have f3 : w2.frozen? ⟨w.heap.size + 1, 3, none⟩ = false := frozen_of_row w2 (w.heap.size + 1) 3 _ 63 q1
  have HQ : Hid (_ = _) := put4_row q1 (.slice a1 n c1) (.int .i64 x.ser) (.int .i64 x.tm) (.int .i64 x.rs)
  have HO : Hid ((put4 w2 (w.heap.size + 1) 0 (.slice a1 n c1) (.int .i64 x.ser) (.int .i64 x.tm) (.int .i64 x.rs)).ownsRow w.heap.size 107 2 (.slice a1 n c1) n (flPt x.parts)) := ownsRow_lower (ownsRow_keepS (S := fun i => i = w.heap.size + 1) o2 ⟨by simp [put4, World.setCell], by simp [put4, World.setCell], by simp [put4, World.setCell], by simp [put4], fun l _ hl => put4_other _ _ _ _ hl _ _ _ _⟩ (fun g _ hg q => by omega)) (by omega)
  have HB : Hid (Below w.heap.size w (put4 w2 (w.heap.size + 1) 0 (.slice a1 n c1) (.int .i64 x.ser) (.int .i64 x.tm) (.int .i64 x.rs))) := ⟨B2.os, B2.tape, B2.output, by simpa [put4, World.setCell] using B2.size, fun l hl => (put4_other _ _ _ _ (by omega) _ _ _ _).trans (B2.block l hl)⟩
  clear q0 q1 o2 B2
  go_wp2
  try simp only [Exit.inBlock, Exit.then]
  exact bodyPost_ret (results_go rfl _ (w.heap.size + 1) rfl _ _ _ _ _ HQ.out) rfl ⟨a1, c1, rfl, HO.out, hc1, HB.out⟩

end Go.Proofs.YtbfjkmlmnhphoaaDoor
