import Derived.Test.YtbfjkmlmnhphoaaDoorK5
import Derived.Test.YtbfjkmlmnhphoaaDoorGW1W6
import Derived.Test.YtbfjkmlmnhphoaaDoorN2
namespace Go.Proofs.YtbfjkmlmnhphoaaDoor
open Go.RowKit

set_option maxRecDepth 10000 in
set_option maxHeartbeats 4000000 in
theorem eqCrl_same (a1 : Option Addr) (n1 c1 : Nat) (a2 : Option Addr) (n2 c2 : Nat) (a3 : Option Addr) (n3 c3 : Nat) (b1 : Option Addr) (d1 : Nat) (b2 : Option Addr) (d2 : Nat) (b3 : Option Addr) (d3 : Nat) (x : CP) (w : World) (h : Crs w a1 n1 a2 n2 a3 n3 x) (h2 : Crs w b1 n1 b2 n2 b3 n3 x) (hm : n3 ≤ 1048576) :
    Calls Tryd.prog 11 #[crv a1 n1 c1 a2 n2 c2 a3 n3 c3 x, crv b1 n1 d1 b2 n2 d2 b3 n3 d3 x] w fun e w' => e = .returned (.bool true) ∧ Below w.heap.size w w' := by
  have H1 : Hid (Crs w a1 n1 a2 n2 a3 n3 x) := h
  have H2 : Hid (Crs w b1 n1 b2 n2 b3 n3 x) := h2
  clear h h2
  unfold crv
  obtain ⟨W0, hW0⟩ : ∃ W0, W0 = ((w.alloc (.cells #[.slice a1 n1 c1, .int .i64 x.num, .int .i64 x.base, .int .i64 x.tm, .int .i64 x.next, .int .i64 x.scope, .bool x.ind, .slice a2 n2 c2, .slice a3 n3 c3] 36)).alloc (.cells #[.slice b1 n1 d1, .int .i64 x.num, .int .i64 x.base, .int .i64 x.tm, .int .i64 x.next, .int .i64 x.scope, .bool x.ind, .slice b2 n2 d2, .slice b3 n3 d3] 36)) := ⟨_, rfl⟩
  have hbl : Below w.heap.size w W0 := by rw [hW0]; exact ((Below.refl _ _).alloc (Nat.le_refl _) _).alloc (by simp) _
  have b0 := two_blocks w (.cells #[.slice a1 n1 c1, .int .i64 x.num, .int .i64 x.base, .int .i64 x.tm, .int .i64 x.next, .int .i64 x.scope, .bool x.ind, .slice a2 n2 c2, .slice a3 n3 c3] 36) (.cells #[.slice b1 n1 d1, .int .i64 x.num, .int .i64 x.base, .int .i64 x.tm, .int .i64 x.next, .int .i64 x.scope, .bool x.ind, .slice b2 n2 d2, .slice b3 n3 d3] 36)
  rw [← hW0] at b0
  have t1 : (x.num != x.num) = false := by simp
  have t2 : (x.base != x.base) = false := by simp
  have t3 : (x.tm != x.tm) = false := by simp
  have t4 : (x.next != x.next) = false := by simp
  have t5 : (x.scope != x.scope) = false := by simp
  have t6 : (x.ind != x.ind) = false := by simp
  go_enter Tryd.func11, Tryd.ntmps11
  go_wp2_with fail
  rw [← hW0]
  clear hW0
  refine (eqName_same a1 b1 n1 c1 d1 x.parts _ (H1.out.kept hbl).nm (H2.out.kept hbl).nm).mono ?_
  rintro e w1 ⟨rfl, hb1⟩
  have l0 := (Array.getElem?_eq_some_iff.1 b0.2).1
  have y0 := (hb1.block _ (by omega)).trans b0.1
  have y1 := (hb1.block _ l0).trans b0.2
  have p1 : w1.cell? ⟨w.heap.size, 1, none⟩ = some (.int .i64 x.num) := (cell_of_row _ _ 1 _ 36 (0, 0) y0).trans rfl
  have q1 : w1.cell? ⟨w.heap.size + 1, 1, none⟩ = some (.int .i64 x.num) := (cell_of_row _ _ 1 _ 36 (0, 0) y1).trans rfl
  have p2 : w1.cell? ⟨w.heap.size, 2, none⟩ = some (.int .i64 x.base) := (cell_of_row _ _ 2 _ 36 (0, 0) y0).trans rfl
  have q2 : w1.cell? ⟨w.heap.size + 1, 2, none⟩ = some (.int .i64 x.base) := (cell_of_row _ _ 2 _ 36 (0, 0) y1).trans rfl
  have p3 : w1.cell? ⟨w.heap.size, 3, none⟩ = some (.int .i64 x.tm) := (cell_of_row _ _ 3 _ 36 (0, 0) y0).trans rfl
  have q3 : w1.cell? ⟨w.heap.size + 1, 3, none⟩ = some (.int .i64 x.tm) := (cell_of_row _ _ 3 _ 36 (0, 0) y1).trans rfl
  have p4 : w1.cell? ⟨w.heap.size, 4, none⟩ = some (.int .i64 x.next) := (cell_of_row _ _ 4 _ 36 (0, 0) y0).trans rfl
  have q4 : w1.cell? ⟨w.heap.size + 1, 4, none⟩ = some (.int .i64 x.next) := (cell_of_row _ _ 4 _ 36 (0, 0) y1).trans rfl
  have p5 : w1.cell? ⟨w.heap.size, 5, none⟩ = some (.int .i64 x.scope) := (cell_of_row _ _ 5 _ 36 (0, 0) y0).trans rfl
  have q5 : w1.cell? ⟨w.heap.size + 1, 5, none⟩ = some (.int .i64 x.scope) := (cell_of_row _ _ 5 _ 36 (0, 0) y1).trans rfl
  have p6 : w1.cell? ⟨w.heap.size, 6, none⟩ = some (.bool x.ind) := (cell_of_row _ _ 6 _ 36 (0, 0) y0).trans rfl
  have q6 : w1.cell? ⟨w.heap.size + 1, 6, none⟩ = some (.bool x.ind) := (cell_of_row _ _ 6 _ 36 (0, 0) y1).trans rfl
  have p7 : w1.cell? ⟨w.heap.size, 7, none⟩ = some (.slice a2 n2 c2) := (cell_of_row _ _ 7 _ 36 (0, 0) y0).trans rfl
  have q7 : w1.cell? ⟨w.heap.size + 1, 7, none⟩ = some (.slice b2 n2 d2) := (cell_of_row _ _ 7 _ 36 (0, 0) y1).trans rfl
  have HB1 : Hid (Below w.heap.size w w1) := hbl.trans (hb1.mono hbl.size)
  have Y0 : Hid (_ = _) := y0
  have Y1 : Hid (_ = _) := y1
  have l1 : w.heap.size + 1 < w1.heap.size := (Array.getElem?_eq_some_iff.1 y1).1
  clear hb1 hbl b0 y0 y1 l0
  go_wp2_with fail
  refine (eqGoneS_same a2 b2 n2 c2 d2 x.ents _ (H1.out.kept HB1.out).en (H2.out.kept HB1.out).en).mono ?_
  rintro e w2 ⟨rfl, hb2⟩
  have y0 := (hb2.block _ (by omega)).trans Y0.out
  have y1 := (hb2.block _ l1).trans Y1.out
  clear p1 p2 p3 p4 p5 p6 p7 q1 q2 q3 q4 q5 q6 q7
  have p8 : w2.cell? ⟨w.heap.size, 8, none⟩ = some (.slice a3 n3 c3) := (cell_of_row _ _ 8 _ 36 (0, 0) y0).trans rfl
  have q8 : w2.cell? ⟨w.heap.size + 1, 8, none⟩ = some (.slice b3 n3 d3) := (cell_of_row _ _ 8 _ 36 (0, 0) y1).trans rfl
  have HB2 : Hid (Below w.heap.size w w2) := HB1.out.trans (hb2.mono HB1.out.size)
  clear hb2 y0 y1 Y0 Y1 HB1
  go_wp2_with fail
  refine (eqByteS_any a3 b3 n3 n3 c3 d3 x.sig x.sig _ (H1.out.kept HB2.out).sg (H2.out.kept HB2.out).sg (by unfold maxLen; omega) (by unfold maxLen; omega)).mono ?_
  rintro e w3 ⟨rfl, hb3⟩
  have HB3 : Hid (Below w.heap.size w w3) := HB2.out.trans (hb3.mono HB2.out.size)
  rw [decide_eq_true (rfl : x.sig = x.sig)]
  clear hb3 HB2 p8 q8
  go_wp2
  go_ret
  exact ⟨rfl, HB3.out⟩

end Go.Proofs.YtbfjkmlmnhphoaaDoor

set_option linter.unusedVariables false
namespace Go.Proofs.YtbfjkmlmnhphoaaDoor
open Go.RowKit

theorem wrap_i64m (v : Int) (h0 : -9223372036854775808 ≤ v) (h1 : v ≤ 9223372036854775807) : IntKind.i64.wrap v = v := by
  rw [IntKind.wrap_i64]; omega

/-- The digits of a mark. -/
def mtxL (k : Nat) (out : ByteArray) : ByteArray := if h : k = 0 then out else mtxL (k / 10) (strOfNums [((48 + k % 10 : Nat) : Int)] ++ out)
termination_by k
decreasing_by omega
theorem mtxL_zero (out : ByteArray) : mtxL 0 out = out := by rw [mtxL]; simp
theorem mtxL_pos {k : Nat} (h : k ≠ 0) (out : ByteArray) : mtxL k out = mtxL (k / 10) (strOfNums [((48 + k % 10 : Nat) : Int)] ++ out) := by rw [mtxL]; simp [h]
/-- A mark's text. -/
def mtx (k : Nat) : ByteArray := (⟨#[109]⟩ : ByteArray) ++ mtxL k ⟨#[]⟩

set_option maxRecDepth 10000 in
set_option maxHeartbeats 1000000 in
theorem markText_any (k : Nat) (w : World) (h0 : 0 < k) (h1 : k ≤ 4000000000000000) :
    Calls Tryd.prog 98 #[.int .i64 k] w fun e w' => e = .returned (.string (mtx k)) ∧ Below w.heap.size w w' := by
  have hki : ¬ ((k : Int) ≤ 0) := by omega
  go_enter Tryd.func98, Tryd.ntmps98
  go_wp2
  go_loopw [0, 3] (fun i s wr => ∃ (j : Nat) (out : ByteArray), out.size + j ≤ 4000000000000000 ∧ i = .int .i64 j ∧ s = .string out ∧ Hid (mtxL j out = mtxL k ⟨#[]⟩) ∧ Below w.heap.size w wr) (fun i _ _ => (intOf i).toNat)
  case atStart => exact ⟨k, ⟨#[]⟩, by show 0 + k ≤ 4000000000000000; omega, rfl, rfl, rfl, Below.refl _ _⟩
  case round =>
    obtain ⟨j, out, hj, rfl, rfl, HM, hbr⟩ := hrel
    by_cases hj0 : j = 0
    · subst hj0
      have HE : Hid (out = mtxL k ⟨#[]⟩) := by show _ = _; rw [← HM.out, mtxL_zero]
      have hni : ¬ ((0 : Int) < ((0 : Nat) : Int)) := by decide
      have hsz : ¬ (9223372036854775807 < 1 + out.size) := by omega
      go_wp2
      go_ret
      exact ⟨by unfold mtx; rw [← HE.out]; rfl, hbr⟩
    · have hji : (0 : Int) < (j : Int) := by omega
      have htm : (j : Int).tmod 10 = (j : Int) % 10 := Int.tmod_eq_emod_of_nonneg (by omega)
      have hw1 : IntKind.i64.wrap ((j : Int).tmod 10) = (j : Int) % 10 := by rw [htm]; exact wrap_i64m _ (by omega) (by omega)
      have hw2 : IntKind.i64.wrap (48 + (j : Int) % 10) = 48 + (j : Int) % 10 := wrap_i64m _ (by omega) (by omega)
      have hw3 : IntKind.u8.wrap (48 + (j : Int) % 10) = 48 + (j : Int) % 10 := by rw [IntKind.wrap_u8]; omega
      have hd : ((48 + j % 10 : Nat) : Int) = 48 + (j : Int) % 10 := by omega
      have HO : Hid (Own w.heap.size (wr.alloc (.cells #[.int .u8 (48 + (j : Int) % 10)] 5)) (some ⟨wr.heap.size, 0, none⟩) 1 1 [48 + (j : Int) % 10]) := ⟨⟨rfl, .inr ⟨wr.heap.size, 1, #[.int .u8 (48 + (j : Int) % 10)], rfl, hbr.size, heap_alloc_new wr _, Nat.le_refl _, by decide, rfl, rfl⟩⟩, fun k => by cases k with | zero => exact ⟨by show (0 : Int) ≤ 48 + (j : Int) % 10; omega, by show 48 + (j : Int) % 10 ≤ 255; omega⟩ | succ k => simp⟩
      have hcv := convert_own HO.out
      have HM2 : Hid (mtxL (j / 10) (strOfNums [48 + (j : Int) % 10] ++ out) = mtxL k ⟨#[]⟩) := by show _ = _; rw [← hd, ← mtxL_pos hj0]; exact HM.out
      have hdv : (j : Int).tdiv 10 = ((j / 10 : Nat) : Int) := by rw [Int.tdiv_eq_ediv_of_nonneg (by omega)]; omega
      have hw4 : IntKind.i64.wrap ((j : Int).tdiv 10) = ((j / 10 : Nat) : Int) := by rw [hdv]; exact wrap_i64m _ (by omega) (by omega)
      have hs1 : (strOfNums [48 + (j : Int) % 10]).size = 1 := strOfNums_size _
      have hsz : ¬ (9223372036854775807 < (strOfNums [48 + (j : Int) % 10]).size + out.size) := by rw [hs1]; omega
      have B2 : Hid (Below w.heap.size w (wr.alloc (.cells #[.int .u8 (48 + (j : Int) % 10)] 5))) := hbr.trans (((Below.refl _ _).alloc (Nat.le_refl _) _).mono hbr.size)
      go_wp2
      refine ⟨⟨j / 10, strOfNums [48 + (j : Int) % 10] ++ out, ?_, by go_num, rfl, HM2, B2.out⟩, ?_⟩
      · rw [ByteArray.size_append, hs1]; omega
      · show ((j : Int) / 10).toNat < (j : Int).toNat
        omega

end Go.Proofs.YtbfjkmlmnhphoaaDoor

set_option linter.unusedVariables false
namespace Go.Proofs.YtbfjkmlmnhphoaaDoor
open Go.RowKit

theorem ownsRow_shape {w : World} {B t s n cap : Nat} {a : Option Addr} {vs : List Value} (h : w.ownsRow B t s (.slice a n cap) n vs) (hn : 0 < n) : ∃ g, a = some ⟨g, 0, none⟩ ∧ B ≤ g ∧ g < w.heap.size := by
  rcases h.2 with ⟨_, h0⟩ | ⟨g, c, cur, h1, hb, hg, _⟩
  · omega
  · simp only [Value.slice.injEq] at h1
    refine ⟨g, h1.1, hb, ?_⟩
    by_cases hl : g < w.heap.size
    · exact hl
    · rw [Array.getElem?_eq_none (by omega)] at hg
      cases hg

/-- What markPartS writes. -/
def mkPs (k : Nat) : Nat → List Value
  | 0 => []
  | n + 1 => mkPs k n ++ [.int .i64 ((k + 2 * n : Nat) : Int), .string (mtx (k + 2 * n + 1))]
theorem mkPs_len (k n : Nat) : (mkPs k n).length = n * 2 := by
  induction n with
  | zero => rfl
  | succ n ih => simp only [mkPs, List.length_append, ih, List.length_cons, List.length_nil]; omega
theorem mkPs_get (k : Nat) : ∀ (n i : Nat), i < n → (mkPs k n)[i * 2]? = some (.int .i64 ((k + 2 * i : Nat) : Int)) ∧ (mkPs k n)[i * 2 + 1]? = some (.string (mtx (k + 2 * i + 1))) := by
  intro n
  induction n with
  | zero => intro i hi; omega
  | succ n ih =>
    intro i hi
    have hl := mkPs_len k n
    by_cases h : i < n
    · obtain ⟨h1, h2⟩ := ih i h
      simp only [mkPs]
      exact ⟨by rw [List.getElem?_append_left (by omega)]; exact h1, by rw [List.getElem?_append_left (by omega)]; exact h2⟩
    · obtain rfl : i = n := by omega
      simp only [mkPs]
      refine ⟨?_, ?_⟩
      · rw [List.getElem?_append_right (by omega), hl, Nat.sub_self]; rfl
      · rw [List.getElem?_append_right (by omega), hl, show i * 2 + 1 - i * 2 = 1 by omega]; rfl
theorem mkPs_next (k j : Nat) (vs : List Value) (h : j * 2 + 1 < vs.length) :
    ((mkPs k j ++ vs.drop (j * 2)).set (j * 2) (.int .i64 ((k + 2 * j : Nat) : Int))).set (j * 2 + 1) (.string (mtx (k + 2 * j + 1))) = mkPs k (j + 1) ++ vs.drop ((j + 1) * 2) := by
  have hl := mkPs_len k j
  rw [List.drop_eq_getElem_cons (by omega : j * 2 < vs.length), List.drop_eq_getElem_cons (by omega : j * 2 + 1 < vs.length), set_append_mid _ _ _ _ _ hl, List.set_append_right _ _ (by omega)]
  simp only [mkPs, hl, show j * 2 + 1 - j * 2 = 1 by omega, List.set_cons_succ, List.set_cons_zero, List.append_assoc, List.cons_append, List.nil_append, show (j + 1) * 2 = j * 2 + 1 + 1 by omega]

set_option maxRecDepth 10000 in
set_option maxHeartbeats 2000000 in
theorem markPartS_any (B lo hi : Nat) (a : Option Addr) (n cap k : Nat) (vs : List Value) (w : World) (h : w.ownsRow B 107 2 (.slice a n cap) n vs) (hn : n ≤ 1048576) (h0 : 0 < k) (hk : k ≤ 2000000000000000) (hin : ∀ g, a = some ⟨g, 0, none⟩ → 0 < n → lo ≤ g ∧ g < hi) :
    Calls Tryd.prog 78 #[.slice a n cap, .int .i64 k] w fun e w' => e = .returned (.int .i64 (k + 2 * n : Nat)) ∧ w'.ownsRow B 107 2 (.slice a n cap) n (mkPs k n) ∧ Touch lo hi w w' := by
  have HL : Hid (vs.length = n * 2) := h.1
  have HIN : Hid (∀ g, a = some ⟨g, 0, none⟩ → 0 < n → lo ≤ g ∧ g < hi) := hin
  have H0 : Hid (w.ownsRow B 107 2 (.slice a n cap) n vs) := h
  clear h hin
  go_enter Tryd.func78, Tryd.ntmps78
  go_wp2
  go_loopw [1, 5] (fun q i wr => ∃ j : Nat, j ≤ n ∧ i = .int .i64 j ∧ q = .int .i64 (k + 2 * j : Nat) ∧ Hid (wr.ownsRow B 107 2 (.slice a n cap) n (mkPs k j ++ vs.drop (j * 2))) ∧ Touch lo hi w wr) (fun _ i _ => n - (intOf i).toNat)
  case atStart => exact ⟨0, Nat.zero_le _, rfl, rfl, by show World.ownsRow _ _ _ _ _ _ _; simpa [mkPs] using H0.out, Touch.of_below (Below.refl _ _)⟩
  case round =>
    obtain ⟨j, hj, rfl, rfl, HR, htr⟩ := hrel
    by_cases hlt : j < n
    · obtain ⟨g, rfl, hgB, hgl⟩ := ownsRow_shape HR.out (by omega)
      obtain ⟨hg1, hg2⟩ := HIN.out g rfl (by omega)
      obtain ⟨q, hq⟩ : ∃ q, q = k + 2 * j := ⟨_, rfl⟩
      have HN : Hid (_) := mkPs_next k j vs (by rw [HL.out]; omega)
      rw [← hq] at HN
      rw [← hq]
      have HQ : Hid (q = k + 2 * j) := hq
      have hq1 : q ≤ 3000000000000000 := by omega
      have hq0 : 0 < q := by omega
      clear hq
      have hjn : (j : Int) < (n : Int) := by omega
      obtain ⟨ms, hms⟩ : ∃ ms, ms = mkPs k j ++ vs.drop (j * 2) := ⟨_, rfl⟩
      rw [← hms] at HN HR
      have hml : ms.length = n * 2 := HR.out.1
      clear hms
      have f0 := HR.out.frozenAt (j * 2)
      obtain ⟨y0, c0⟩ : ∃ y, wr.cell? ⟨g, j * 2, none⟩ = some y := ⟨_, (HR.out.cellAt (j * 2) (by omega)).trans (List.getElem?_eq_getElem (by omega))⟩
      have H4 := (HR.out.stored (j * 2) (.int .i64 (q : Int))).1
      obtain ⟨w4, hw4⟩ : ∃ w4, w4 = wr.setCell ⟨g, j * 2, none⟩ (.int .i64 (q : Int)) := ⟨_, rfl⟩
      have HT4 : Hid (Touch lo hi w w4) := by rw [hw4]; exact htr.trans (touch_set' _ _ _ _ hg1 hg2)
      have H4' : Hid (w4.ownsRow B 107 2 (.slice (some ⟨g, 0, none⟩) n cap) n (ms.set (j * 2) (.int .i64 (q : Int)))) := by rw [hw4]; exact H4
      have HW : Hid (w4 = wr.setCell ⟨g, j * 2, none⟩ (.int .i64 (q : Int))) := hw4
      clear H4 hw4 htr
      go_upto_region 6 with fail
      rw [← HW.out]
      clear HW c0 f0
      have HM : ∀ W, Calls Tryd.prog 98 #[.int .i64 ((q : Int) + 1)] W fun e w' => e = .returned (.string (mtx (q + 1))) ∧ Below W.heap.size W w' := fun W => by have h := markText_any (q + 1) W (by omega) (by omega); rw [show ((q + 1 : Nat) : Int) = (q : Int) + 1 from by omega] at h; exact h
      go_wp2_with fail
      refine (HM _).mono ?_
      rintro e w5 ⟨rfl, hb5⟩
      have H5 : w5.ownsRow B 107 2 (.slice (some ⟨g, 0, none⟩) n cap) n (ms.set (j * 2) (.int .i64 (q : Int))) := ownsRow_below H4'.out hb5
      have f1 := H5.frozenAt (j * 2 + 1)
      obtain ⟨y1, c1⟩ : ∃ y, w5.cell? ⟨g, j * 2 + 1, none⟩ = some y := ⟨_, (H5.cellAt (j * 2 + 1) (by omega)).trans (List.getElem?_eq_getElem (by rw [List.length_set]; omega))⟩
      have H6 : Hid ((w5.setCell ⟨g, j * 2 + 1, none⟩ (.string (mtx (q + 1)))).ownsRow B 107 2 (.slice (some ⟨g, 0, none⟩) n cap) n (mkPs k (j + 1) ++ vs.drop ((j + 1) * 2))) := by
        show World.ownsRow _ _ _ _ _ _ _
        rw [← HN.out]
        exact (H5.stored (j * 2 + 1) (.string (mtx (q + 1)))).1
      have HT6 : Hid (Touch lo hi w (w5.setCell ⟨g, j * 2 + 1, none⟩ (.string (mtx (q + 1))))) := HT4.out.trans ((Touch.of_below hb5).trans (touch_set' _ _ _ _ hg1 hg2))
      clear H5 hb5 HM
      go_wp2
      go_roundw
      case rel => exact ⟨j + 1, by omega, by go_num, by rw [show ((k + 2 * (j + 1) : Nat) : Int) = (q : Int) + 1 + 1 from by have := HQ.out; omega], H6, HT6.out⟩
      case measure => simp [intOf]; omega
    · have hjn : j = n := by omega
      subst hjn
      go_wp2
      go_ret
      exact ⟨rfl, by have h1 := HR.out; rw [List.drop_eq_nil_of_le (by rw [HL.out]; omega), List.append_nil] at h1; exact h1, htr⟩

end Go.Proofs.YtbfjkmlmnhphoaaDoor
