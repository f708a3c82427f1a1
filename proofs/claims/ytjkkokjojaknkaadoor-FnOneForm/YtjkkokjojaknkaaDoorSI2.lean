import Derived.Test.YtjkkokjojaknkaaDoorG10
import Derived.Deep.DeepCutAuto
namespace Go.Proofs.YtjkkokjojaknkaaDoor
open Go.RowKit

/-! sameItem of any two items: true of equal ones alone. -/
def SameS (d : Nat) : Prop := ∀ (d2 : Nat) (x y : It) (ab : Option Addr) (nb cb : Nat) (ak : Option Addr) (nk ck : Nat) (ab2 : Option Addr) (nb2 cb2 : Nat) (ak2 : Option Addr) (nk2 ck2 : Nat) (w : World),
    Row w ab nb x.body → Kids d w ak nk x.kids → Row w ab2 nb2 y.body → Kids d2 w ak2 nk2 y.kids →
    Calls Tryd.prog 17 #[itv x ab nb cb ak nk ck, itv y ab2 nb2 cb2 ak2 nk2 ck2] w fun e w' => ∃ b : Bool, e = .returned (.bool b) ∧ Hid (b = true → x = y) ∧ Below w.heap.size w w'
theorem it_ext {x y : It} (h1 : x.cls = y.cls) (h2 : x.tag = y.tag) (h3 : x.cons = y.cons) (h4 : x.body = y.body) (h5 : x.kids = y.kids) : x = y := by
  cases x
  cases y
  simp only [It.cls, It.tag, It.cons, It.body, It.kids] at h1 h2 h3 h4 h5
  subst h1 h2 h3 h4 h5
  rfl
theorem list_ext {xs ys : List It} (hl : xs.length = ys.length) (h : ∀ j, j < xs.length → xs.getD j default = ys.getD j default) : xs = ys := by
  apply List.ext_getElem hl
  intro i h1 h2
  have := h i h1
  simpa [h1, h2] using this

set_option maxRecDepth 10000 in
set_option maxHeartbeats 4000000 in
theorem sameS_next (d : Nat) (ih : SameS d) : SameS (d + 1) := by
  intro d2 x y ab nb cb ak nk ck ab2 nb2 cb2 ak2 nk2 ck2 w hr hk hr2 hk2
  obtain ⟨d2, rfl⟩ : ∃ m, d2 = m + 1 := by
    cases d2 with
    | zero => exact hk2.elim
    | succ m => exact ⟨m, rfl⟩
  have hn := hk.2.1
  have hn2 := hk2.2.1
  have HR : Hid (Row w ab nb x.body) := hr
  have HR2 : Hid (Row w ab2 nb2 y.body) := hr2
  have HK : Hid (Kids (d + 1) w ak nk x.kids) := hk
  have HK2 : Hid (Kids (d2 + 1) w ak2 nk2 y.kids) := hk2
  clear hr hk hr2 hk2
  unfold itv
  obtain ⟨p, hp⟩ : ∃ p, p = x.cons := ⟨_, rfl⟩
  obtain ⟨q, hq⟩ : ∃ q, q = y.cons := ⟨_, rfl⟩
  rw [← hp, ← hq]
  have HP : Hid (p = x.cons) := hp
  have HQ : Hid (q = y.cons) := hq
  clear hp hq
  obtain ⟨W, hW⟩ : ∃ W, W = (w.alloc (.cells #[.int .i64 x.cls, .int .i64 x.tag, .bool p, .slice ab nb cb, .slice ak nk ck] 26)).alloc (.cells #[.int .i64 y.cls, .int .i64 y.tag, .bool q, .slice ab2 nb2 cb2, .slice ak2 nk2 ck2] 26) := ⟨_, rfl⟩
  have hB : Below w.heap.size w W := by rw [hW]; exact ((Below.refl _ _).alloc (Nat.le_refl _) _).alloc (by simp) _
  have hbx := two_blocks w (.cells #[.int .i64 x.cls, .int .i64 x.tag, .bool p, .slice ab nb cb, .slice ak nk ck] 26) (.cells #[.int .i64 y.cls, .int .i64 y.tag, .bool q, .slice ab2 nb2 cb2, .slice ak2 nk2 ck2] 26)
  rw [← hW] at hbx
  have hsB : W.heap.size = w.heap.size + 2 := by rw [hW]; simp
  have HB0 : Hid (W.heap[w.heap.size]? = some (.cells #[.int .i64 x.cls, .int .i64 x.tag, .bool p, .slice ab nb cb, .slice ak nk ck] 26 (0, 0))) := hbx.1
  have HB1 : Hid (W.heap[w.heap.size + 1]? = some (.cells #[.int .i64 y.cls, .int .i64 y.tag, .bool q, .slice ab2 nb2 cb2, .slice ak2 nk2 ck2] 26 (0, 0))) := hbx.2
  have HBB : Hid (Below w.heap.size w W) := hB
  have SB : Hid (_) := sameBytes_any ab ab2 nb nb2 cb cb2 x.body y.body W (HR.out.kept hB) (HR2.out.kept hB)
  have HWW : Hid (_ = _) := hW
  clear hB hbx hW
  go_enter Tryd.func17, Tryd.ntmps17
  go_upto_region 1 with fail
  rw [← HWW.out]
  obtain ⟨a0, a1, a2, a3, a4⟩ : W.cell? ⟨w.heap.size, 0, none⟩ = some (.int .i64 x.cls) ∧ W.cell? ⟨w.heap.size, 1, none⟩ = some (.int .i64 x.tag) ∧ W.cell? ⟨w.heap.size, 2, none⟩ = some (.bool p) ∧ W.cell? ⟨w.heap.size, 3, none⟩ = some (.slice ab nb cb) ∧ W.cell? ⟨w.heap.size, 4, none⟩ = some (.slice ak nk ck) :=
    ⟨(cell_of_row _ _ 0 _ _ _ HB0.out).trans rfl, (cell_of_row _ _ 1 _ _ _ HB0.out).trans rfl, (cell_of_row _ _ 2 _ _ _ HB0.out).trans rfl, (cell_of_row _ _ 3 _ _ _ HB0.out).trans rfl, (cell_of_row _ _ 4 _ _ _ HB0.out).trans rfl⟩
  obtain ⟨b0, b1, b2, b3, b4⟩ : W.cell? ⟨w.heap.size + 1, 0, none⟩ = some (.int .i64 y.cls) ∧ W.cell? ⟨w.heap.size + 1, 1, none⟩ = some (.int .i64 y.tag) ∧ W.cell? ⟨w.heap.size + 1, 2, none⟩ = some (.bool q) ∧ W.cell? ⟨w.heap.size + 1, 3, none⟩ = some (.slice ab2 nb2 cb2) ∧ W.cell? ⟨w.heap.size + 1, 4, none⟩ = some (.slice ak2 nk2 ck2) :=
    ⟨(cell_of_row _ _ 0 _ _ _ HB1.out).trans rfl, (cell_of_row _ _ 1 _ _ _ HB1.out).trans rfl, (cell_of_row _ _ 2 _ _ _ HB1.out).trans rfl, (cell_of_row _ _ 3 _ _ _ HB1.out).trans rfl, (cell_of_row _ _ 4 _ _ _ HB1.out).trans rfl⟩
  go_cut [41] (fun c wx => ∃ b : Bool, c = .bool b ∧ Hid ((b = false → (x.cls = y.cls ∧ x.tag = y.tag ∧ p = q ∧ x.body = y.body ∧ nk = nk2)) ∧ W = wx))
  case first =>
    by_cases h1 : x.cls = y.cls
    · have z1 : (x.cls != y.cls) = false := by simp [h1]
      by_cases h2 : x.tag = y.tag
      · have z2 : (x.tag != y.tag) = false := by simp [h2]
        have H12 : Hid (x.cls = y.cls ∧ x.tag = y.tag) := ⟨h1, h2⟩
        clear h1 h2
        cases p <;> cases q
        · go_wp2_with fail
          refine Calls.mono SB.out ?_
          rintro e w1 ⟨rfl, rfl⟩
          by_cases h4 : x.body = y.body
          · rw [decide_eq_true h4]
            have H4 : Hid (x.body = y.body) := h4
            clear h4
            by_cases h5 : nk = nk2
            · have z5 : ((nk : Int) != (nk2 : Int)) = false := by simp [h5]
              have H5 : Hid (nk = nk2) := h5
              clear h5
              go_wp2_with fail
              go_meet
              exact ⟨false, rfl, ⟨fun _ => ⟨H12.out.1, H12.out.2, (by first | rfl | trivial), H4.out, H5.out⟩, rfl⟩⟩
            · have z5 : ((nk : Int) != (nk2 : Int)) = true := by simp; omega
              go_wp2_with fail
              go_meet
              exact ⟨true, rfl, ⟨fun h => (by cases h), rfl⟩⟩
          · rw [decide_eq_false h4]
            go_wp2_with fail
            go_meet
            exact ⟨true, rfl, ⟨fun h => (by cases h), rfl⟩⟩
        · go_wp2_with fail
          go_meet
          exact ⟨true, rfl, ⟨fun h => (by cases h), rfl⟩⟩
        · go_wp2_with fail
          go_meet
          exact ⟨true, rfl, ⟨fun h => (by cases h), rfl⟩⟩
        · go_wp2_with fail
          refine Calls.mono SB.out ?_
          rintro e w1 ⟨rfl, rfl⟩
          by_cases h4 : x.body = y.body
          · rw [decide_eq_true h4]
            have H4 : Hid (x.body = y.body) := h4
            clear h4
            by_cases h5 : nk = nk2
            · have z5 : ((nk : Int) != (nk2 : Int)) = false := by simp [h5]
              have H5 : Hid (nk = nk2) := h5
              clear h5
              go_wp2_with fail
              go_meet
              exact ⟨false, rfl, ⟨fun _ => ⟨H12.out.1, H12.out.2, (by first | rfl | trivial), H4.out, H5.out⟩, rfl⟩⟩
            · have z5 : ((nk : Int) != (nk2 : Int)) = true := by simp; omega
              go_wp2_with fail
              go_meet
              exact ⟨true, rfl, ⟨fun h => (by cases h), rfl⟩⟩
          · rw [decide_eq_false h4]
            go_wp2_with fail
            go_meet
            exact ⟨true, rfl, ⟨fun h => (by cases h), rfl⟩⟩
      · have z2 : (x.tag != y.tag) = true := by simp [h2]
        clear h1 h2
        go_wp2_with fail
        go_meet
        exact ⟨true, rfl, ⟨fun h => (by cases h), rfl⟩⟩
    · have z1 : (x.cls != y.cls) = true := by simp [h1]
      clear h1
      go_wp2_with fail
      go_meet
      exact ⟨true, rfl, ⟨fun h => (by cases h), rfl⟩⟩
  case rest =>
  obtain ⟨b, rfl, hb⟩ := hcut
  obtain ⟨hb1, hb2⟩ := hb.out
  subst hb2
  clear hb SB HWW
  cases b with
  | true =>
    clear hb1
    go_wp2
    go_ret
    exact ⟨false, rfl, fun h => (by cases h), HBB.out⟩
  | false =>
  obtain ⟨e1, e2, e3, e4, e5⟩ := hb1 rfl
  have HE : Hid (x.cls = y.cls ∧ x.tag = y.tag ∧ x.cons = y.cons ∧ x.body = y.body) := ⟨e1, e2, by rw [← HP.out, ← HQ.out]; exact e3, e4⟩
  subst e5
  clear hb1 e1 e2 e3 e4 a0 a1 a2 a3 b0 b1 b2 b3
  go_wp2_with fail
  go_loopw [5] (fun i wr => ∃ k : Nat, k ≤ nk ∧ i = .int .i64 k ∧ Hid (∀ j, j < k → x.kids.getD j default = y.kids.getD j default) ∧ Below W.heap.size W wr) (fun i _ => nk - (intOf i).toNat)
  case atStart => exact ⟨0, Nat.zero_le _, rfl, fun j hj => by omega, Below.refl _ _⟩
  case round =>
    obtain ⟨k, hk, rfl, hall, hbr⟩ := hrel
    have k4 : wr.cell? ⟨w.heap.size, 4, none⟩ = some (.slice ak nk ck) := (hbr.cell (p := ⟨w.heap.size, 4, none⟩) (show w.heap.size < W.heap.size by omega)).trans a4
    have k5 : wr.cell? ⟨w.heap.size + 1, 4, none⟩ = some (.slice ak2 nk ck2) := (hbr.cell (p := ⟨w.heap.size + 1, 4, none⟩) (show w.heap.size + 1 < W.heap.size by omega)).trans b4
    by_cases hkn : k < nk
    · have hbw : Below w.heap.size w wr := HBB.out.trans (hbr.mono (by omega))
      obtain ⟨bb1, off1, rfl, hl1, ab1, nb1, cb1, ak1, nk1, ck1, c0, c1, c2, c3, c4, hr1, hn1, hm1, hk1⟩ := HK.out.2.2 k hkn
      obtain ⟨bb2, off2, rfl, hl2, ab3, nb3, cb3, ak3, nk3, ck3, f0, f1, f2, f3, f4, hr2, hn3, hm2, hk2⟩ := HK2.out.2.2 k hkn
      obtain ⟨u, hu⟩ : ∃ u, u = x.kids.getD k default := ⟨_, rfl⟩
      obtain ⟨v, hv⟩ : ∃ v, v = y.kids.getD k default := ⟨_, rfl⟩
      have HU : Hid (u = x.kids.getD k default) := hu
      have HV : Hid (v = y.kids.getD k default) := hv
      rw [← hu] at c0 c1 c2 hr1 hk1
      rw [← hv] at f0 f1 f2 hr2 hk2
      clear hu hv
      have cc : ∀ j, wr.cell? ⟨bb1, j, none⟩ = w.cell? ⟨bb1, j, none⟩ := fun j => hbw.cell (p := ⟨bb1, j, none⟩) hl1
      have dd : ∀ j, wr.cell? ⟨bb2, j, none⟩ = w.cell? ⟨bb2, j, none⟩ := fun j => hbw.cell (p := ⟨bb2, j, none⟩) hl2
      rw [← cc] at c0 c1 c2 c3 c4
      rw [← dd] at f0 f1 f2 f3 f4
      clear cc dd
      have hkni : (k : Int) < (nk : Int) := by omega
      have hs := hbr.size
      have R1 : Hid (Row wr.drew ab1 nb1 u.body) := hr1.kept hbw.drew
      have R2 : Hid (Row wr.drew ab3 nb3 v.body) := hr2.kept hbw.drew
      have K1 : Hid (Kids d wr.drew ak1 nk1 u.kids) := hk1.kept hbw.drew
      have K2 : Hid (Kids d2 wr.drew ak3 nk3 v.kids) := hk2.kept hbw.drew
      clear hr1 hr2 hk1 hk2
      go_upto_region 6 with fail
      go_cut [60] (fun c wx => ∃ b : Bool, c = .bool b ∧ Hid ((b = false → u = v) ∧ Below W.heap.size W wx))
      case first =>
        go_region_with (go_at_call 17; refine (ih d2 u v ab1 nb1 cb1 ak1 nk1 ck1 ab3 nb3 cb3 ak3 nk3 ck3 _ R1.out K1.out R2.out K2.out).mono ?_; rintro e w2 ⟨bq, rfl, hbq, hb2⟩)
        all_goals
          have b5 : Below W.heap.size W w2 := hbr.drew.trans (hb2.mono hs)
          go_wp2_with fail
          go_meet
          exact ⟨!bq, rfl, ⟨fun h => hbq.out (by simpa using h), b5⟩⟩
      case rest =>
      obtain ⟨b, rfl, hb⟩ := hcut
      obtain ⟨hb1, hb2⟩ := hb.out
      clear hb
      cases b with
      | true =>
        go_wp2
        go_ret
        exact ⟨false, rfl, fun h => (by cases h), HBB.out.trans (hb2.mono (by omega))⟩
      | false =>
        have huv := hb1 rfl
        have HALL : Hid (∀ j, j < k + 1 → x.kids.getD j default = y.kids.getD j default) := by
          intro j hj
          by_cases hjk : j = k
          · rw [hjk, ← HU.out, ← HV.out]; exact huv
          · exact hall.out j (by omega)
        clear hb1 huv hall
        go_wp2
        go_roundw
        case rel => exact ⟨k + 1, by omega, by go_num, HALL, hb2⟩
        case measure => simp [intOf]; omega
    · have hkk : k = nk := by omega
      have hfin : Hid (x = y) := by
        refine it_ext HE.out.1 HE.out.2.1 HE.out.2.2.1 HE.out.2.2.2 (list_ext (HK.out.1.trans HK2.out.1.symm) fun j hj => hall.out j (by rw [hkk, ← HK.out.1]; exact hj))
      clear hkk hall
      go_wp2
      go_ret
      exact ⟨true, rfl, fun _ => hfin.out, HBB.out.trans (hbr.mono (by omega))⟩
theorem sameS_all (d : Nat) : SameS d := by
  induction d with
  | zero => intro d2 x y ab nb cb ak nk ck ab2 nb2 cb2 ak2 nk2 ck2 w _ h; exact h.elim
  | succ d ih => exact sameS_next d ih

end Go.Proofs.YtjkkokjojaknkaaDoor
