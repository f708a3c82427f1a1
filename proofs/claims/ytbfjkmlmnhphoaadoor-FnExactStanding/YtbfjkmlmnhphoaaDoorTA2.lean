import Derived.Test.YtbfjkmlmnhphoaaDoorTA1
import Derived.Test.YtbfjkmlmnhphoaaDoorST00
import Derived.Deep.DeepAppendWide
set_option linter.unusedVariables false
namespace Go.Proofs.YtbfjkmlmnhphoaaDoor
open Go.RowKit

/-- The cells of stands that say 'gone'. -/
def flS (ss : List (Int × Int)) : List Value := ss.flatMap fun p => [.int .i64 1, .int .i64 p.1, .int .i64 p.2]
theorem flS_cons (p : Int × Int) (r : List (Int × Int)) : flS (p :: r) = Value.int .i64 1 :: .int .i64 p.1 :: .int .i64 p.2 :: flS r := rfl
theorem flS_append (a b : List (Int × Int)) : flS (a ++ b) = flS a ++ flS b := by simp [flS, List.flatMap_append]
theorem flS_len (ps : List (Int × Int)) : (flS ps).length = ps.length * 3 := by
  induction ps with
  | nil => rfl
  | cons p r ih => rw [flS_cons]; simp [ih]; omega
theorem flS_get (ps : List (Int × Int)) : ∀ k (h : k < ps.length), (flS ps)[k * 3]? = some (.int .i64 1) ∧ (flS ps)[k * 3 + 1]? = some (.int .i64 (ps.getD k (0, 0)).1) ∧ (flS ps)[k * 3 + 2]? = some (.int .i64 (ps.getD k (0, 0)).2) := by
  induction ps with
  | nil => intro k h; simp at h
  | cons p r ih =>
    intro k h
    cases k with
    | zero => simp [flS_cons]
    | succ k =>
      have := ih k (by simpa using h)
      rw [flS_cons, show (k + 1) * 3 = k * 3 + 1 + 1 + 1 by omega]
      simpa using this
theorem flS_one (ps : List (Int × Int)) : ∀ u ∈ flS ps, u.oneCell' = true := by
  induction ps with
  | nil => intro u hu; simp [flS] at hu
  | cons p r ih =>
    intro u hu
    rw [flS_cons] at hu
    simp only [List.mem_cons] at hu
    rcases hu with rfl | rfl | rfl | hu
    · rfl
    · rfl
    · rfl
    · exact ih u hu
/-- A row of stands of our own. -/
def OwnS (B : Nat) (w : World) (v : Value) (n : Nat) (ss : List (Int × Int)) : Prop := w.ownsRow B 48 3 v n (flS ss)
theorem OwnS.kept {B : Nat} {w w' : World} {v : Value} {n : Nat} {ss : List (Int × Int)} (h : OwnS B w v n ss) (hb : Below w.heap.size w w') : OwnS B w' v n ss := ownsRow_below h hb
theorem OwnS.len {B : Nat} {w : World} {v : Value} {n : Nat} {ss : List (Int × Int)} (h : OwnS B w v n ss) : ss.length = n := by
  have := h.1
  rw [flS_len] at this
  omega
theorem OwnS.shape {w : World} {B n : Nat} {v : Value} {ss : List (Int × Int)} (h : OwnS B w v n ss) (hn : 0 < n) : ∃ g cap, v = .slice (some ⟨g, 0, none⟩) n cap ∧ B ≤ g ∧ g < w.heap.size := by
  rcases h.2 with ⟨_, h0⟩ | ⟨g, cap', cur, hv, hb, hg, _⟩
  · omega
  · exact ⟨g, cap', hv, hb, (Array.getElem?_eq_some_iff.1 hg).1⟩
theorem OwnS.slice {w : World} {B n : Nat} {v : Value} {ss : List (Int × Int)} (h : OwnS B w v n ss) : ∃ a cap, v = .slice a n cap := by
  rcases h.2 with ⟨hv, h0⟩ | ⟨g, cap', cur, hv, hb, hg, _⟩
  · exact ⟨none, 0, by rw [hv, h0]⟩
  · exact ⟨_, cap', hv⟩
/-- Three cells of a stand. -/
structure Cells3 (w : World) (b o : Nat) (p : Int × Int) : Prop where
  c0 : w.cell? ⟨b, o, none⟩ = some (.int .i64 1)
  c1 : w.cell? ⟨b, o + 1, none⟩ = some (.int .i64 p.1)
  c2 : w.cell? ⟨b, o + 2, none⟩ = some (.int .i64 p.2)
theorem OwnS.cells {w : World} {B n g cap : Nat} {ss : List (Int × Int)} (h : OwnS B w (.slice (some ⟨g, 0, none⟩) n cap) n ss) (k : Nat) (hk : k < n) : Cells3 w g (k * 3) (ss.getD k (0, 0)) := by
  have hl := h.len
  obtain ⟨f0, f1, f2⟩ := flS_get ss k (by omega)
  unfold OwnS at h
  refine ⟨?_, ?_, ?_⟩
  · rw [World.ownsRow.cellAt h _ (by omega)]; exact f0
  · rw [World.ownsRow.cellAt h _ (by omega)]; exact f1
  · rw [World.ownsRow.cellAt h _ (by omega)]; exact f2
theorem best_take (ss : List (Int × Int)) (k : Nat) (hk : k < ss.length) : best (ss.take (k + 1)) = pick (best (ss.take k)) (ss.getD k (0, 0)) := by
  rw [List.take_add_one, List.getElem?_eq_getElem hk]
  simp only [Option.toList]
  rw [best_snoc]
  simp [List.getD, hk]

def put3 (w : World) (g : Nat) (v0 v1 v2 : Value) : World := ((w.setCell ⟨g, 0, none⟩ v0).setCell ⟨g, 1, none⟩ v1).setCell ⟨g, 2, none⟩ v2
theorem put3_same (w : World) (g : Nat) (T : TypeId) (v0 v1 v2 u0 u1 u2 : Value) (h : w.heap[g]? = some (.cells #[u0, u1, u2] T (0, 0))) : (put3 w g v0 v1 v2).heap[g]? = some (.cells #[v0, v1, v2] T (0, 0)) := by
  have h0 : (w.setCell ⟨g, 0, none⟩ v0).heap[g]? = some (.cells #[v0, u1, u2] T (0, 0)) := heap_setCell_same w g 0 _ T v0 h
  have h1 : ((w.setCell ⟨g, 0, none⟩ v0).setCell ⟨g, 1, none⟩ v1).heap[g]? = some (.cells #[v0, v1, u2] T (0, 0)) := heap_setCell_same _ g 1 _ T v1 h0
  exact heap_setCell_same _ g 2 _ T v2 h1
theorem put3_other (w : World) (g l : Nat) (v0 v1 v2 : Value) (h : l ≠ g) : (put3 w g v0 v1 v2).heap[l]? = w.heap[l]? :=
  (Below.heap_setCell _ _ _ _ (by show l ≠ g; exact h)).trans ((Below.heap_setCell _ _ _ _ (by show l ≠ g; exact h)).trans (Below.heap_setCell _ _ _ _ (by show l ≠ g; exact h)))
theorem put3_below {B : Nat} {w0 w : World} (h : Below B w0 w) (g : Nat) (hg : B ≤ g) (v0 v1 v2 : Value) : Below B w0 (put3 w g v0 v1 v2) := ((h.setCell hg _).setCell hg _).setCell hg _

set_option maxRecDepth 10000 in
set_option maxHeartbeats 2000000 in
theorem minFunc_any (B g n cap : Nat) (ss : List (Int × Int)) (w : World) (h : OwnS B w (.slice (some ⟨g, 0, none⟩) n cap) n ss) (hn : 0 < n) (hm : n ≤ 1000000) :
    Calls Tryd.prog 62 #[.slice (some ⟨g, 0, none⟩) n cap, .func (Fn.func 63) #[] #[]] w fun e w' => ∃ r, best ss = some r ∧ e = .returned (.agg #[.int .i64 1, .int .i64 r.1, .int .i64 r.2]) ∧ Below w.heap.size w w' := by
  have HK : Hid (OwnS B w (.slice (some ⟨g, 0, none⟩) n cap) n ss) := h
  have HL : Hid (ss.length = n) := h.len
  have hg : g < w.heap.size := by
    obtain ⟨g', c', e, _, hl⟩ := h.shape hn
    simp only [Value.slice.injEq, Option.some.injEq, Addr.mk.injEq] at e
    rw [e.1.1]; exact hl
  obtain ⟨f, hf⟩ : ∃ f, f = ss.getD 0 (0, 0) := ⟨_, rfl⟩
  have hbe : best (ss.take 1) = some f := by
    rw [best_take ss 0 (by rw [h.len]; exact hn), hf]; rfl
  have HB1 : Hid (best (ss.take 1) = some f) := hbe
  obtain ⟨wa, hwa⟩ : ∃ wa, wa = w.alloc (.cells #[.int .i64 0, .int .i64 0, .int .i64 0] 48) := ⟨_, rfl⟩
  have hba : Below w.heap.size w wa := by rw [hwa]; exact (Below.refl _ _).alloc (Nat.le_refl _) _
  have d := (h.kept hba).cells 0 hn
  rw [← hf, Nat.zero_mul] at d
  obtain ⟨d0, d1, d2⟩ := d
  obtain ⟨wb, hwb⟩ : ∃ wb, wb = (w.alloc (.cells #[.int .i64 0, .int .i64 0, .int .i64 0] 48)).alloc (.cells #[.int .i64 1, .int .i64 f.1, .int .i64 f.2] 48) := ⟨_, rfl⟩
  have hbb : Below w.heap.size w wb := by rw [hwb]; exact two_below _ _ _
  have b0 := two_blocks w (.cells #[.int .i64 0, .int .i64 0, .int .i64 0] 48) (.cells #[.int .i64 1, .int .i64 f.1, .int .i64 f.2] 48)
  rw [← hwb] at b0
  have HB0 : Hid (_ ∧ _) := b0
  clear h hf hbe b0 hba
  rw [hwa] at d0 d1 d2
  have hni : ¬ ((n : Int) < 1) := by omega
  go_enter Tryd.func62, Tryd.ntmps62
  go_wp2
  rw [← hwb]
  clear hwb hwa d0 d1 d2
  go_loopw [6] (fun i wr => ∃ (k : Nat) (r : Int × Int), 1 ≤ k ∧ k ≤ n ∧ i = .int .i64 k ∧ Hid (best (ss.take k) = some r) ∧ Hid (wr.heap[w.heap.size + 1]? = some (.cells #[.int .i64 1, .int .i64 r.1, .int .i64 r.2] 48 (0, 0))) ∧ Hid (wr.heap[w.heap.size]? = some (.cells #[.int .i64 0, .int .i64 0, .int .i64 0] 48 (0, 0))) ∧ Below w.heap.size w wr) (fun i _ => n - (intOf i).toNat)
  case atStart => exact ⟨1, f, by decide, hn, rfl, HB1, HB0.out.2, HB0.out.1, hbb⟩
  case round =>
    obtain ⟨k, r, hk1, hk, rfl, HR, HX, HZ, hbr⟩ := hrel
    have hl1 : w.heap.size + 1 < wr.heap.size := (Array.getElem?_eq_some_iff.1 HX.out).1
    by_cases hkn : k < n
    · obtain ⟨y, hy⟩ : ∃ y, y = ss.getD k (0, 0) := ⟨_, rfl⟩
      have d := (HK.out.kept hbr).cells k hkn
      rw [← hy] at d
      have HT : Hid (best (ss.take (k + 1)) = pick (some r) y) := by
        show _ = _
        rw [best_take ss k (by rw [HL.out]; exact hkn), HR.out, hy]
      have HD : Hid (∀ w', Below wr.heap.size wr w' → Cells3 w' g (k * 3) y) := fun w' hb' => by
        have := (HK.out.kept (hbr.trans (hb'.mono hbr.size))).cells k hkn
        rw [← hy] at this
        exact this
      obtain ⟨d0, d1, d2⟩ := d
      have e0 : wr.cell? ⟨w.heap.size + 1, 0, none⟩ = some (.int .i64 1) := (cell_of_row _ _ 0 _ 48 (0, 0) HX.out).trans rfl
      have e1 : wr.cell? ⟨w.heap.size + 1, 1, none⟩ = some (.int .i64 r.1) := (cell_of_row _ _ 1 _ 48 (0, 0) HX.out).trans rfl
      have e2 : wr.cell? ⟨w.heap.size + 1, 2, none⟩ = some (.int .i64 r.2) := (cell_of_row _ _ 2 _ 48 (0, 0) HX.out).trans rfl
      have hkni : (k : Int) < (n : Int) := by omega
      clear hy
      go_wp2_with fail
      go_region_with (go_at_call 63; refine (ahead_any ((1 : Int), y) ((1 : Int), r) _).mono ?_; rintro e w2 ⟨rfl, hb2⟩)
      all_goals
        have hbd : Below wr.heap.size wr w2 := (Below.refl _ _).drew.trans (hb2.mono (by simp))
        have B2 : Below w.heap.size w w2 := hbr.trans (hbd.mono hbr.size)
        have HX2 : Hid (w2.heap[w.heap.size + 1]? = some (.cells #[.int .i64 1, .int .i64 r.1, .int .i64 r.2] 48 (0, 0))) := (hbd.block _ hl1).trans HX.out
        have HZ2 : Hid (w2.heap[w.heap.size]? = some (.cells #[.int .i64 0, .int .i64 0, .int .i64 0] 48 (0, 0))) := (hbd.block _ (by omega)).trans HZ.out
        have hcs := HD.out w2 hbd
        clear e0 e1 e2 d0 d1 d2 HX HZ hb2 hbd hbr HD
        by_cases hneg : ahI ((1 : Int), y) ((1 : Int), r) < 0
        · obtain ⟨d0, d1, d2⟩ := hcs
          have hah : aheadP y r := (ahI_neg _ _).1 hneg
          have HP : Hid (best (ss.take (k + 1)) = some y) := HT.out.trans (by simp only [pick]; rw [if_pos hah])
          have hx := HX2.out
          have f0 : w2.frozen? ⟨w.heap.size + 1, 0, none⟩ = false := frozen_of_row w2 _ 0 _ _ hx
          have f1 : w2.frozen? ⟨w.heap.size + 1, 1, none⟩ = false := frozen_of_row w2 _ 1 _ _ hx
          have f2 : w2.frozen? ⟨w.heap.size + 1, 2, none⟩ = false := frozen_of_row w2 _ 2 _ _ hx
          have e0 : w2.cell? ⟨w.heap.size + 1, 0, none⟩ = some (.int .i64 1) := (cell_of_row _ _ 0 _ 48 (0, 0) hx).trans rfl
          have e1 : w2.cell? ⟨w.heap.size + 1, 1, none⟩ = some (.int .i64 r.1) := (cell_of_row _ _ 1 _ 48 (0, 0) hx).trans rfl
          have e2 : w2.cell? ⟨w.heap.size + 1, 2, none⟩ = some (.int .i64 r.2) := (cell_of_row _ _ 2 _ 48 (0, 0) hx).trans rfl
          have HX3 : Hid (_ = _) := put3_same w2 (w.heap.size + 1) 48 (.int .i64 1) (.int .i64 y.1) (.int .i64 y.2) _ _ _ hx
          have HZ3 : Hid (_ = _) := (put3_other w2 (w.heap.size + 1) w.heap.size (.int .i64 1) (.int .i64 y.1) (.int .i64 y.2) (by omega)).trans HZ2.out
          have B3 : Hid (Below w.heap.size w (put3 w2 (w.heap.size + 1) (.int .i64 1) (.int .i64 y.1) (.int .i64 y.2))) := put3_below B2 _ (by omega) _ _ _
          clear hah hx HX2 HZ2 B2
          go_wp2
          go_roundw
          case rel => exact ⟨k + 1, y, by omega, by omega, by go_num, HP, HX3, HZ3, B3.out⟩
          case measure => simp [intOf]; omega
        · have HP : Hid (best (ss.take (k + 1)) = some r) := HT.out.trans (by simp only [pick]; rw [if_neg (fun q : aheadP y r => hneg ((ahI_neg _ _).2 q))])
          clear hcs
          go_wp2
          go_roundw
          case rel => exact ⟨k + 1, r, by omega, by omega, by go_num, HP, HX2, HZ2, B2⟩
          case measure => simp [intOf]; omega
    · have hkn' : n = k := by omega
      subst hkn'
      have HE : Hid (best ss = some r) := by
        have := HR.out
        rw [← HL.out, List.take_length] at this
        exact this
      have e0 : wr.cell? ⟨w.heap.size + 1, 0, none⟩ = some (.int .i64 1) := (cell_of_row _ _ 0 _ 48 (0, 0) HX.out).trans rfl
      have e1 : wr.cell? ⟨w.heap.size + 1, 1, none⟩ = some (.int .i64 r.1) := (cell_of_row _ _ 1 _ 48 (0, 0) HX.out).trans rfl
      have e2 : wr.cell? ⟨w.heap.size + 1, 2, none⟩ = some (.int .i64 r.2) := (cell_of_row _ _ 2 _ 48 (0, 0) HX.out).trans rfl
      have f0 : wr.frozen? ⟨w.heap.size, 0, none⟩ = false := frozen_of_row wr _ 0 _ _ HZ.out
      have f1 : wr.frozen? ⟨w.heap.size, 1, none⟩ = false := frozen_of_row wr _ 1 _ _ HZ.out
      have f2 : wr.frozen? ⟨w.heap.size, 2, none⟩ = false := frozen_of_row wr _ 2 _ _ HZ.out
      have z0 : wr.cell? ⟨w.heap.size, 0, none⟩ = some (.int .i64 0) := (cell_of_row _ _ 0 _ 48 (0, 0) HZ.out).trans rfl
      have z1 : wr.cell? ⟨w.heap.size, 1, none⟩ = some (.int .i64 0) := (cell_of_row _ _ 1 _ 48 (0, 0) HZ.out).trans rfl
      have z2 : wr.cell? ⟨w.heap.size, 2, none⟩ = some (.int .i64 0) := (cell_of_row _ _ 2 _ 48 (0, 0) HZ.out).trans rfl
      have HX3 : Hid (_ = _) := put3_same wr w.heap.size 48 (.int .i64 1) (.int .i64 r.1) (.int .i64 r.2) _ _ _ HZ.out
      have B3 : Hid (Below w.heap.size w (put3 wr w.heap.size (.int .i64 1) (.int .i64 r.1) (.int .i64 r.2))) := put3_below hbr _ (Nat.le_refl _) _ _ _
      clear HX HZ hbr
      go_wp2
      exact bodyPost_ret (results_cell_row rfl _ _ w.heap.size 48 _ (0, 0) _ rfl HX3.out Tryd.underlying48 rfl (by kernel_rfl)) rfl ⟨r, HE.out, rfl, B3.out⟩

end Go.Proofs.YtbfjkmlmnhphoaaDoor
