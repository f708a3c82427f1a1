import Derived.Test.YtjkkokjojaknkaaDoorWItem11
namespace Go.Proofs.YtjkkokjojaknkaaDoor
open Go.RowKit

/-- The body and the kids of an item, in one. -/
def inX (r : Nat) (x : It) : Option (List Int) := encK (enc r) x.body x.kids

theorem shape_parts {x : It} (h : x.shape = true) : (x.cons = true → x.body = []) ∧ (x.cons = false → x.kids = []) := by
  unfold It.shape at h
  simp only [Bool.and_eq_true] at h
  constructor
  · intro hc
    have := h.2
    rw [hc] at this
    simpa using this
  · intro hc
    have := h.2
    rw [hc] at this
    simpa using this

theorem enc_inX_none (r : Nat) (x : It) (hs : x.shape = true) (h : inX r x = none) : enc (r + 1) x = none := by
  have hp := shape_parts hs
  unfold inX at h
  cases hc : x.cons with
  | true => rw [hp.1 hc] at h; exact enc_none r x hs (by rw [innerBy, if_pos hc]; exact h)
  | false => rw [hp.2 hc] at h; simp [encK] at h
theorem enc_inX_long (r : Nat) (x : It) (inner : List Int) (hs : x.shape = true) (h : inX r x = some inner) (hl : ¬ (headL x inner.length ++ inner).length ≤ 20000) : enc (r + 1) x = none := by
  have hp := shape_parts hs
  unfold inX at h
  cases hc : x.cons with
  | true => rw [hp.1 hc] at h; exact enc_long r x inner hs (by rw [innerBy, if_pos hc]; exact h) hl
  | false =>
    rw [hp.2 hc] at h
    simp [encK] at h
    by_cases hb : x.body.length ≤ 20000
    · exact enc_long r x inner hs (by rw [innerBy, if_neg (by simp [hc]), if_pos hb, h]) hl
    · exact enc_none r x hs (by rw [innerBy, if_neg (by simp [hc]), if_neg hb])
theorem enc_inX_some (r : Nat) (x : It) (inner : List Int) (hs : x.shape = true) (h : inX r x = some inner) (hl : (headL x inner.length ++ inner).length ≤ 20000) : enc (r + 1) x = some (headL x inner.length ++ inner) := by
  have hp := shape_parts hs
  unfold inX at h
  cases hc : x.cons with
  | true => rw [hp.1 hc] at h; exact enc_some r x inner hs (by rw [innerBy, if_pos hc]; exact h) hl
  | false =>
    rw [hp.2 hc] at h
    simp [encK] at h
    have hb : x.body.length ≤ 20000 := by rw [h]; rw [List.length_append] at hl; omega
    exact enc_some r x inner hs (by rw [innerBy, if_neg (by simp [hc]), if_pos hb, h]) hl

/-- How long, or -1. -/
def sizV (o : Option (List Int)) : Int := match o with | none => -1 | some l => l.length

def SizeAt (d : Nat) : Prop := ∀ (r : Nat) (D : Int) (x : It) (ab : Option Addr) (nb cb : Nat) (ak : Option Addr) (nk ck : Nat) (w : World), r ≤ 12 → D = 13 - (r : Int) → Row w ab nb x.body → nb ≤ 1048576 → Kids d w ak nk x.kids → wtS d x.kids ≤ 1048576 →
    Calls Tryd.prog 37 #[itv x ab nb cb ak nk ck, .int .i64 D] w fun e w' => e = .returned (.int .i64 (sizV (enc r x))) ∧ Below w.heap.size w w'

/-- The box of an argument is there. -/
def Boxed (w W : World) (x : It) (ab : Option Addr) (nb cb : Nat) (ak : Option Addr) (nk ck : Nat) : Prop := W.heap[w.heap.size]? = some (.cells #[.int .i64 x.cls, .int .i64 x.tag, .bool x.cons, .slice ab nb cb, .slice ak nk ck] 26 (0, 0))
theorem boxed_new (w : World) (x : It) (ab : Option Addr) (nb cb : Nat) (ak : Option Addr) (nk ck : Nat) : Boxed w (w.alloc (.cells #[.int .i64 x.cls, .int .i64 x.tag, .bool x.cons, .slice ab nb cb, .slice ak nk ck] 26)) x ab nb cb ak nk ck := heap_alloc_new w _
theorem Boxed.kept {w W W' : World} {x : It} {ab : Option Addr} {nb cb : Nat} {ak : Option Addr} {nk ck : Nat} (h : Boxed w W x ab nb cb ak nk ck) (hb : Below W.heap.size W W') : Boxed w W' x ab nb cb ak nk ck := (hb.block _ (Array.getElem?_eq_some_iff.1 h).1).trans h
theorem Boxed.cells {w W : World} {x : It} {ab : Option Addr} {nb cb : Nat} {ak : Option Addr} {nk ck : Nat} (h : Boxed w W x ab nb cb ak nk ck) :
    W.cell? ⟨w.heap.size, 0, none⟩ = some (.int .i64 x.cls) ∧ W.cell? ⟨w.heap.size, 1, none⟩ = some (.int .i64 x.tag) ∧ W.cell? ⟨w.heap.size, 2, none⟩ = some (.bool x.cons) ∧ W.cell? ⟨w.heap.size, 3, none⟩ = some (.slice ab nb cb) ∧ W.cell? ⟨w.heap.size, 4, none⟩ = some (.slice ak nk ck) :=
  ⟨(cell_of_row _ w.heap.size 0 _ 26 (0, 0) h).trans rfl, (cell_of_row _ w.heap.size 1 _ 26 (0, 0) h).trans rfl, (cell_of_row _ w.heap.size 2 _ 26 (0, 0) h).trans rfl, (cell_of_row _ w.heap.size 3 _ 26 (0, 0) h).trans rfl, (cell_of_row _ w.heap.size 4 _ 26 (0, 0) h).trans rfl⟩

set_option maxRecDepth 10000 in
set_option maxHeartbeats 4000000 in
theorem sizeC1 (d : Nat) (ih : SizeAt d) (r : Nat) (D : Int) (x : It) (ab : Option Addr) (cb : Nat) (ak : Option Addr) (nk ck : Nat) (w : World) (hr : r + 1 ≤ 12) (hD : D = 13 - ((r + 1 : Nat) : Int)) (hrow : Row w ab 0 x.body) (hk : Kids (d + 1) w ak nk x.kids) (hwt : wtS (d + 1) x.kids ≤ 1048576)
    (hcl : 0 ≤ x.cls ∧ x.cls ≤ 3) (htg : 0 ≤ x.tag ∧ x.tag ≤ 268435455) (z1 : (x.cls == 0) = true) (z2 : (x.tag == 0) = false) (hc : x.cons = true) (hsh : x.shape = true) :
    Calls Tryd.prog 37 #[itv x ab 0 cb ak nk ck, .int .i64 D] w fun e w' => e = .returned (.int .i64 (sizV (enc (r + 1) x))) ∧ Below w.heap.size w w' := by
  have HR : Hid (Row w ab 0 x.body) := hrow
  have HK : Hid (Kids (d + 1) w ak nk x.kids) := hk
  have HL : Hid (x.kids.length = nk) := hk.1
  have hnk := hk.2.1
  have d1 : 0 ≤ D := by omega
  have d2 : D ≤ 13 := by omega
  have hnk2 : nk ≤ 1048576 := by rw [wtS_succ, hk.1] at hwt; omega
  have h12 : ¬ D > 12 := by omega
  have HD : Hid (D = 13 - ((r + 1 : Nat) : Int)) := hD
  have HW : Hid (nk + wtP d x.kids nk ≤ 1048576) := by show _ ≤ _; rw [wtS_succ, hk.1] at hwt; exact hwt
  have HSH : Hid (x.shape = true) := hsh
  have HC : Hid (true = x.cons) := hc.symm
  clear hrow hk hD hwt hsh hc
  have hbl : Below w.heap.size w (w.alloc (.cells #[.int .i64 x.cls, .int .i64 x.tag, .bool true, .slice ab 0 cb, .slice ak nk ck] 26)) := (Below.refl _ _).alloc (Nat.le_refl _) _
  have hbx := boxed_new w x ab 0 cb ak nk ck
  rw [← HC.out] at hbx
  unfold itv
  rw [← HC.out]
  go_enter Tryd.func37, Tryd.ntmps37
  go_wp2_with fail
  refine (l1In_any x.cls 0 3 _).mono ?_
  rintro e w1 ⟨rfl, rfl⟩
  rw [decide_eq_true hcl]
  go_wp2_with fail
  refine (l1In_any x.tag 0 268435455 _).mono ?_
  rintro e w1 ⟨rfl, rfl⟩
  rw [decide_eq_true htg]
  go_wp2
  go_loopw [5, 6] (fun nn i wr => ∃ (k N : Nat) (acc : List Int), k ≤ nk ∧ i = .int .i64 k ∧ nn = .int .i64 N ∧ Hid (acc.length = N) ∧ N ≤ 1048576 ∧ Hid (inX r x = encK (enc r) acc (x.kids.drop k)) ∧ Boxed w wr x ab 0 cb ak nk ck ∧ Below w.heap.size w wr) (fun _ i _ => nk - (intOf i).toNat)
  case atStart => exact ⟨0, 0, x.body, Nat.zero_le _, rfl, rfl, HR.out.len, by decide, (by show _ = _; rw [List.drop_zero]; rfl), hbx, hbl⟩
  case round =>
    obtain ⟨k, N, acc, hk, rfl, rfl, LA, hN, hE, hbox, hbr⟩ := hrel
    obtain ⟨x0, x1, x2, x3, x4⟩ := hbox.cells
    rw [← HC.out] at x2
    have BX : Hid (Boxed w wr x ab 0 cb ak nk ck) := hbox
    clear hbox
    by_cases hkn : k < nk
    · obtain ⟨b, off, rfl, hlb, ab1, nb1, cb1, ak1, nk1, ck1, c0, c1, c2, c3, c4, hr1, hn1, hm1, hk1⟩ := HK.out.2.2 k hkn
      have hwk : nb1 + wtS d (x.kids.getD k default).kids ≤ 1048576 := by
        have g1 := wtP_next d x.kids k (by rw [HL.out]; exact hkn)
        have g2 := wtP_le d x.kids (k + 1)
        have g3 := HW.out
        rw [HL.out] at g2
        rw [hr1.len] at g1
        omega
      obtain ⟨y, hy⟩ : ∃ y, y = x.kids.getD k default := ⟨_, rfl⟩
      rw [← hy] at c0 c1 c2 hr1 hk1 hwk
      have HY : Hid (y = x.kids.getD k default) := hy
      have cc : ∀ j, wr.cell? ⟨b, j, none⟩ = w.cell? ⟨b, j, none⟩ := fun j => hbr.cell (p := ⟨b, j, none⟩) hlb
      rw [← cc] at c0 c1 c2 c3 c4
      clear cc hy
      have hkni : (k : Int) < (nk : Int) := by omega
      have hs := hbr.size
      have R1 : Hid (_) := hr1.kept hbr
      have K1 : Hid (_) := hk1.kept hbr
      have hkl : Hid (k < x.kids.length) := by show _ < _; rw [HL.out]; exact hkn
      clear hr1 hk1
      go_wp2_with fail
      refine (ih r (D + 1) y ab1 nb1 cb1 ak1 nk1 ck1 _ (by omega) (by have := HD.out; omega) R1.out (by omega) K1.out (by omega)).mono ?_
      rintro e w2 ⟨rfl, hb2⟩
      have hb2' : Below w.heap.size w w2 := hbr.trans (hb2.mono hs)
      obtain ⟨o, ho⟩ : ∃ o, o = enc r y := ⟨_, rfl⟩
      rw [← ho]
      have HO : Hid (o = enc r (x.kids.getD k default)) := by show _ = _; rw [← HY.out]; exact ho
      have hol : ∀ p, o = some p → p.length ≤ 20000 := fun p hp => enc_len r y p (by rw [← ho]; exact hp)
      clear ho
      cases o with
      | none =>
        have HE : Hid (sizV (enc (r + 1) x) = -1) := by
          show _ = _
          rw [enc_inX_none r x HSH.out (by rw [hE.out]; exact encK_none _ _ _ hkl.out _ HO.out.symm)]
          rfl
        have e3 : sizV none = -1 := rfl
        rw [e3]
        clear e3
        go_wp2
        go_ret
        exact ⟨by rw [HE.out]; rfl, hb2'⟩
      | some p =>
        have hq := hol p rfl
        obtain ⟨q, hqe⟩ : ∃ q, q = p.length := ⟨_, rfl⟩
        have e3 : sizV (some p) = (q : Int) := by rw [hqe]; rfl
        have HQ : Hid (q = p.length) := hqe
        rw [← hqe] at hq
        rw [e3]
        clear e3 hqe hol
        have x3' := (BX.out.kept hb2).cells.2.2.2.1
        have x4' : w2.cell? ⟨w.heap.size, 4, none⟩ = some (.slice (some ⟨b, off, none⟩) nk ck) := (BX.out.kept hb2).cells.2.2.2.2
        by_cases hlong : N + q ≤ 20000
        · have h3 : ¬ (N : Int) + (q : Int) > 20000 := by omega
          have HN : Hid (inX r x = encK (enc r) (acc ++ p) (x.kids.drop (k + 1))) := by show _ = _; rw [hE.out]; exact encK_next _ _ _ hkl.out _ _ HO.out.symm (by rw [LA.out, ← HQ.out]; exact hlong)
          have HA : Hid ((acc ++ p).length = N + q) := by show _ = _; rw [List.length_append, LA.out, ← HQ.out]
          have HB : Hid (Boxed w w2 x ab 0 cb (some ⟨b, off, none⟩) nk ck) := BX.out.kept hb2
          go_wp2
          go_roundw
          case rel => exact ⟨k + 1, N + q, acc ++ p, by omega, by go_num, by go_num, HA, by omega, HN, HB, hb2'⟩
          case measure => simp [intOf]; omega
        · have h3 : (N : Int) + (q : Int) > 20000 := by omega
          have HE : Hid (sizV (enc (r + 1) x) = -1) := by
            show _ = _
            rw [enc_inX_none r x HSH.out (by rw [hE.out]; exact encK_long _ _ _ hkl.out _ _ HO.out.symm (by rw [LA.out, ← HQ.out]; exact hlong))]
            rfl
          go_wp2
          go_ret
          exact ⟨by rw [HE.out]; rfl, hb2'⟩
    · obtain rfl : nk = k := by omega
      have HI : Hid (inX r x = some acc) := by show _ = _; rw [hE.out, encK_end _ _ _ (by rw [HL.out]; exact Nat.le_refl _)]
      go_wp2_with fail
      have hl2 := l2Head_any x ab 0 cb ak nk ck N wr hcl htg (by omega)
      unfold itv at hl2
      rw [← HC.out] at hl2
      refine hl2.mono ?_
      rintro e w3 ⟨a3, c3, rfl, ho3, hb3⟩
      have hh := headL_len x N htg
      obtain ⟨nh, hnh⟩ : ∃ nh, nh = (headL x N).length := ⟨_, rfl⟩
      have HNH : Hid (nh = (headL x N).length) := hnh
      rw [← hnh] at hh ⊢
      clear hnh ho3
      have hb3' : Below w.heap.size w w3 := hbr.trans (hb3.mono hbr.size)
      have hll : Hid ((headL x acc.length ++ acc).length = N + nh) := by show _ = _; rw [List.length_append, LA.out, ← HNH.out]; omega
      by_cases hlong : N + nh ≤ 20000
      · have h3 : ¬ (N : Int) + (nh : Int) > 20000 := by omega
        have HE : Hid (sizV (enc (r + 1) x) = (N : Int) + (nh : Int)) := by
          show _ = _
          rw [enc_inX_some r x acc HSH.out HI.out (by rw [hll.out]; exact hlong)]
          show ((headL x acc.length ++ acc).length : Int) = _
          rw [hll.out]
          omega
        go_wp2
        go_ret
        exact ⟨by rw [HE.out]; rfl, hb3'⟩
      · have h3 : (N : Int) + (nh : Int) > 20000 := by omega
        have HE : Hid (sizV (enc (r + 1) x) = -1) := by
          show _ = _
          rw [enc_inX_long r x acc HSH.out HI.out (by rw [hll.out]; exact hlong)]
          rfl
        go_wp2
        go_ret
        exact ⟨by rw [HE.out]; rfl, hb3'⟩

set_option maxRecDepth 10000 in
set_option maxHeartbeats 4000000 in
theorem sizeC2 (d : Nat) (ih : SizeAt d) (r : Nat) (D : Int) (x : It) (ab : Option Addr) (cb : Nat) (ak : Option Addr) (nk ck : Nat) (w : World) (hr : r + 1 ≤ 12) (hD : D = 13 - ((r + 1 : Nat) : Int)) (hrow : Row w ab 0 x.body) (hk : Kids (d + 1) w ak nk x.kids) (hwt : wtS (d + 1) x.kids ≤ 1048576)
    (hcl : 0 ≤ x.cls ∧ x.cls ≤ 3) (htg : 0 ≤ x.tag ∧ x.tag ≤ 268435455) (z1 : (x.cls == 0) = false) (hc : x.cons = true) (hsh : x.shape = true) :
    Calls Tryd.prog 37 #[itv x ab 0 cb ak nk ck, .int .i64 D] w fun e w' => e = .returned (.int .i64 (sizV (enc (r + 1) x))) ∧ Below w.heap.size w w' := by
  have HR : Hid (Row w ab 0 x.body) := hrow
  have HK : Hid (Kids (d + 1) w ak nk x.kids) := hk
  have HL : Hid (x.kids.length = nk) := hk.1
  have hnk := hk.2.1
  have d1 : 0 ≤ D := by omega
  have d2 : D ≤ 13 := by omega
  have hnk2 : nk ≤ 1048576 := by rw [wtS_succ, hk.1] at hwt; omega
  have h12 : ¬ D > 12 := by omega
  have HD : Hid (D = 13 - ((r + 1 : Nat) : Int)) := hD
  have HW : Hid (nk + wtP d x.kids nk ≤ 1048576) := by show _ ≤ _; rw [wtS_succ, hk.1] at hwt; exact hwt
  have HSH : Hid (x.shape = true) := hsh
  have HC : Hid (true = x.cons) := hc.symm
  clear hrow hk hD hwt hsh hc
  have hbl : Below w.heap.size w (w.alloc (.cells #[.int .i64 x.cls, .int .i64 x.tag, .bool true, .slice ab 0 cb, .slice ak nk ck] 26)) := (Below.refl _ _).alloc (Nat.le_refl _) _
  have hbx := boxed_new w x ab 0 cb ak nk ck
  rw [← HC.out] at hbx
  unfold itv
  rw [← HC.out]
  go_enter Tryd.func37, Tryd.ntmps37
  go_wp2_with fail
  refine (l1In_any x.cls 0 3 _).mono ?_
  rintro e w1 ⟨rfl, rfl⟩
  rw [decide_eq_true hcl]
  go_wp2_with fail
  refine (l1In_any x.tag 0 268435455 _).mono ?_
  rintro e w1 ⟨rfl, rfl⟩
  rw [decide_eq_true htg]
  go_wp2
  go_loopw [5, 6] (fun nn i wr => ∃ (k N : Nat) (acc : List Int), k ≤ nk ∧ i = .int .i64 k ∧ nn = .int .i64 N ∧ Hid (acc.length = N) ∧ N ≤ 1048576 ∧ Hid (inX r x = encK (enc r) acc (x.kids.drop k)) ∧ Boxed w wr x ab 0 cb ak nk ck ∧ Below w.heap.size w wr) (fun _ i _ => nk - (intOf i).toNat)
  case atStart => exact ⟨0, 0, x.body, Nat.zero_le _, rfl, rfl, HR.out.len, by decide, (by show _ = _; rw [List.drop_zero]; rfl), hbx, hbl⟩
  case round =>
    obtain ⟨k, N, acc, hk, rfl, rfl, LA, hN, hE, hbox, hbr⟩ := hrel
    obtain ⟨x0, x1, x2, x3, x4⟩ := hbox.cells
    rw [← HC.out] at x2
    have BX : Hid (Boxed w wr x ab 0 cb ak nk ck) := hbox
    clear hbox
    by_cases hkn : k < nk
    · obtain ⟨b, off, rfl, hlb, ab1, nb1, cb1, ak1, nk1, ck1, c0, c1, c2, c3, c4, hr1, hn1, hm1, hk1⟩ := HK.out.2.2 k hkn
      have hwk : nb1 + wtS d (x.kids.getD k default).kids ≤ 1048576 := by
        have g1 := wtP_next d x.kids k (by rw [HL.out]; exact hkn)
        have g2 := wtP_le d x.kids (k + 1)
        have g3 := HW.out
        rw [HL.out] at g2
        rw [hr1.len] at g1
        omega
      obtain ⟨y, hy⟩ : ∃ y, y = x.kids.getD k default := ⟨_, rfl⟩
      rw [← hy] at c0 c1 c2 hr1 hk1 hwk
      have HY : Hid (y = x.kids.getD k default) := hy
      have cc : ∀ j, wr.cell? ⟨b, j, none⟩ = w.cell? ⟨b, j, none⟩ := fun j => hbr.cell (p := ⟨b, j, none⟩) hlb
      rw [← cc] at c0 c1 c2 c3 c4
      clear cc hy
      have hkni : (k : Int) < (nk : Int) := by omega
      have hs := hbr.size
      have R1 : Hid (_) := hr1.kept hbr
      have K1 : Hid (_) := hk1.kept hbr
      have hkl : Hid (k < x.kids.length) := by show _ < _; rw [HL.out]; exact hkn
      clear hr1 hk1
      go_wp2_with fail
      refine (ih r (D + 1) y ab1 nb1 cb1 ak1 nk1 ck1 _ (by omega) (by have := HD.out; omega) R1.out (by omega) K1.out (by omega)).mono ?_
      rintro e w2 ⟨rfl, hb2⟩
      have hb2' : Below w.heap.size w w2 := hbr.trans (hb2.mono hs)
      obtain ⟨o, ho⟩ : ∃ o, o = enc r y := ⟨_, rfl⟩
      rw [← ho]
      have HO : Hid (o = enc r (x.kids.getD k default)) := by show _ = _; rw [← HY.out]; exact ho
      have hol : ∀ p, o = some p → p.length ≤ 20000 := fun p hp => enc_len r y p (by rw [← ho]; exact hp)
      clear ho
      cases o with
      | none =>
        have HE : Hid (sizV (enc (r + 1) x) = -1) := by
          show _ = _
          rw [enc_inX_none r x HSH.out (by rw [hE.out]; exact encK_none _ _ _ hkl.out _ HO.out.symm)]
          rfl
        have e3 : sizV none = -1 := rfl
        rw [e3]
        clear e3
        go_wp2
        go_ret
        exact ⟨by rw [HE.out]; rfl, hb2'⟩
      | some p =>
        have hq := hol p rfl
        obtain ⟨q, hqe⟩ : ∃ q, q = p.length := ⟨_, rfl⟩
        have e3 : sizV (some p) = (q : Int) := by rw [hqe]; rfl
        have HQ : Hid (q = p.length) := hqe
        rw [← hqe] at hq
        rw [e3]
        clear e3 hqe hol
        have x3' := (BX.out.kept hb2).cells.2.2.2.1
        have x4' : w2.cell? ⟨w.heap.size, 4, none⟩ = some (.slice (some ⟨b, off, none⟩) nk ck) := (BX.out.kept hb2).cells.2.2.2.2
        by_cases hlong : N + q ≤ 20000
        · have h3 : ¬ (N : Int) + (q : Int) > 20000 := by omega
          have HN : Hid (inX r x = encK (enc r) (acc ++ p) (x.kids.drop (k + 1))) := by show _ = _; rw [hE.out]; exact encK_next _ _ _ hkl.out _ _ HO.out.symm (by rw [LA.out, ← HQ.out]; exact hlong)
          have HA : Hid ((acc ++ p).length = N + q) := by show _ = _; rw [List.length_append, LA.out, ← HQ.out]
          have HB : Hid (Boxed w w2 x ab 0 cb (some ⟨b, off, none⟩) nk ck) := BX.out.kept hb2
          go_wp2
          go_roundw
          case rel => exact ⟨k + 1, N + q, acc ++ p, by omega, by go_num, by go_num, HA, by omega, HN, HB, hb2'⟩
          case measure => simp [intOf]; omega
        · have h3 : (N : Int) + (q : Int) > 20000 := by omega
          have HE : Hid (sizV (enc (r + 1) x) = -1) := by
            show _ = _
            rw [enc_inX_none r x HSH.out (by rw [hE.out]; exact encK_long _ _ _ hkl.out _ _ HO.out.symm (by rw [LA.out, ← HQ.out]; exact hlong))]
            rfl
          go_wp2
          go_ret
          exact ⟨by rw [HE.out]; rfl, hb2'⟩
    · obtain rfl : nk = k := by omega
      have HI : Hid (inX r x = some acc) := by show _ = _; rw [hE.out, encK_end _ _ _ (by rw [HL.out]; exact Nat.le_refl _)]
      go_wp2_with fail
      have hl2 := l2Head_any x ab 0 cb ak nk ck N wr hcl htg (by omega)
      unfold itv at hl2
      rw [← HC.out] at hl2
      refine hl2.mono ?_
      rintro e w3 ⟨a3, c3, rfl, ho3, hb3⟩
      have hh := headL_len x N htg
      obtain ⟨nh, hnh⟩ : ∃ nh, nh = (headL x N).length := ⟨_, rfl⟩
      have HNH : Hid (nh = (headL x N).length) := hnh
      rw [← hnh] at hh ⊢
      clear hnh ho3
      have hb3' : Below w.heap.size w w3 := hbr.trans (hb3.mono hbr.size)
      have hll : Hid ((headL x acc.length ++ acc).length = N + nh) := by show _ = _; rw [List.length_append, LA.out, ← HNH.out]; omega
      by_cases hlong : N + nh ≤ 20000
      · have h3 : ¬ (N : Int) + (nh : Int) > 20000 := by omega
        have HE : Hid (sizV (enc (r + 1) x) = (N : Int) + (nh : Int)) := by
          show _ = _
          rw [enc_inX_some r x acc HSH.out HI.out (by rw [hll.out]; exact hlong)]
          show ((headL x acc.length ++ acc).length : Int) = _
          rw [hll.out]
          omega
        go_wp2
        go_ret
        exact ⟨by rw [HE.out]; rfl, hb3'⟩
      · have h3 : (N : Int) + (nh : Int) > 20000 := by omega
        have HE : Hid (sizV (enc (r + 1) x) = -1) := by
          show _ = _
          rw [enc_inX_long r x acc HSH.out HI.out (by rw [hll.out]; exact hlong)]
          rfl
        go_wp2
        go_ret
        exact ⟨by rw [HE.out]; rfl, hb3'⟩

set_option maxRecDepth 10000 in
set_option maxHeartbeats 4000000 in
theorem sizeF1 (d : Nat) (r : Nat) (D : Int) (x : It) (ab : Option Addr) (nb cb : Nat) (ak : Option Addr) (ck : Nat) (w : World) (hr : r + 1 ≤ 12) (hD : D = 13 - ((r + 1 : Nat) : Int)) (hrow : Row w ab nb x.body) (hnb : nb ≤ 1048576) (hk : Kids (d + 1) w ak 0 x.kids) (hwt : wtS (d + 1) x.kids ≤ 1048576)
    (hcl : 0 ≤ x.cls ∧ x.cls ≤ 3) (htg : 0 ≤ x.tag ∧ x.tag ≤ 268435455) (z1 : (x.cls == 0) = true) (z2 : (x.tag == 0) = false) (hc : x.cons = false) (hsh : x.shape = true) :
    Calls Tryd.prog 37 #[itv x ab nb cb ak 0 ck, .int .i64 D] w fun e w' => e = .returned (.int .i64 (sizV (enc (r + 1) x))) ∧ Below w.heap.size w w' := by
  have HR : Hid (Row w ab nb x.body) := hrow
  have HK : Hid (Kids (d + 1) w ak 0 x.kids) := hk
  have HL : Hid (x.kids.length = 0) := hk.1
  have hnk := hk.2.1
  have d1 : 0 ≤ D := by omega
  have d2 : D ≤ 13 := by omega
  have h12 : ¬ D > 12 := by omega
  have HD : Hid (D = 13 - ((r + 1 : Nat) : Int)) := hD
  have HW : Hid (0 + wtP d x.kids 0 ≤ 1048576) := by show _ ≤ _; rw [wtS_succ, hk.1] at hwt; exact hwt
  have HSH : Hid (x.shape = true) := hsh
  have HC : Hid (false = x.cons) := hc.symm
  clear hrow hk hD hwt hsh hc
  have hbl : Below w.heap.size w (w.alloc (.cells #[.int .i64 x.cls, .int .i64 x.tag, .bool false, .slice ab nb cb, .slice ak 0 ck] 26)) := (Below.refl _ _).alloc (Nat.le_refl _) _
  have hbx := boxed_new w x ab nb cb ak 0 ck
  rw [← HC.out] at hbx
  unfold itv
  rw [← HC.out]
  go_enter Tryd.func37, Tryd.ntmps37
  go_wp2_with fail
  refine (l1In_any x.cls 0 3 _).mono ?_
  rintro e w1 ⟨rfl, rfl⟩
  rw [decide_eq_true hcl]
  go_wp2_with fail
  refine (l1In_any x.tag 0 268435455 _).mono ?_
  rintro e w1 ⟨rfl, rfl⟩
  rw [decide_eq_true htg]
  go_wp2
  have HI : Hid (inX r x = some x.body) := by show _ = _; rw [inX, (shape_parts HSH.out).2 HC.out.symm, encK]
  have hl2 := l2Head_any x ab nb cb ak 0 ck nb (w.alloc (.cells #[.int .i64 x.cls, .int .i64 x.tag, .bool false, .slice ab nb cb, .slice ak 0 ck] 26)) hcl htg (by omega)
  unfold itv at hl2
  rw [← HC.out] at hl2
  refine wp_loop_rounds 2 ?_
  rw [rounds_succ]
  go_wp2_with fail
  refine hl2.mono ?_
  rintro e w3 ⟨a3, c3, rfl, ho3, hb3⟩
  have hh := headL_len x nb htg
  obtain ⟨nh, hnh⟩ : ∃ nh, nh = (headL x nb).length := ⟨_, rfl⟩
  have HNH : Hid (nh = (headL x nb).length) := hnh
  rw [← hnh] at hh ⊢
  clear hnh ho3
  have hb3' : Below w.heap.size w w3 := hbl.trans (hb3.mono hbl.size)
  have hll : Hid ((headL x x.body.length ++ x.body).length = nb + nh) := by show _ = _; rw [List.length_append, HR.out.len, ← HNH.out]; omega
  by_cases hlong : nb + nh ≤ 20000
  · have h3 : ¬ (nb : Int) + (nh : Int) > 20000 := by omega
    have HE : Hid (sizV (enc (r + 1) x) = (nb : Int) + (nh : Int)) := by
      show _ = _
      rw [enc_inX_some r x x.body HSH.out HI.out (by rw [hll.out]; exact hlong)]
      show ((headL x x.body.length ++ x.body).length : Int) = _
      rw [hll.out]
      omega
    go_wp2
    go_ret
    exact ⟨by rw [HE.out]; rfl, hb3'⟩
  · have h3 : (nb : Int) + (nh : Int) > 20000 := by omega
    have HE : Hid (sizV (enc (r + 1) x) = -1) := by
      show _ = _
      rw [enc_inX_long r x x.body HSH.out HI.out (by rw [hll.out]; exact hlong)]
      rfl
    go_wp2
    go_ret
    exact ⟨by rw [HE.out]; rfl, hb3'⟩

set_option maxRecDepth 10000 in
set_option maxHeartbeats 4000000 in
theorem sizeF2 (d : Nat) (r : Nat) (D : Int) (x : It) (ab : Option Addr) (nb cb : Nat) (ak : Option Addr) (ck : Nat) (w : World) (hr : r + 1 ≤ 12) (hD : D = 13 - ((r + 1 : Nat) : Int)) (hrow : Row w ab nb x.body) (hnb : nb ≤ 1048576) (hk : Kids (d + 1) w ak 0 x.kids) (hwt : wtS (d + 1) x.kids ≤ 1048576)
    (hcl : 0 ≤ x.cls ∧ x.cls ≤ 3) (htg : 0 ≤ x.tag ∧ x.tag ≤ 268435455) (z1 : (x.cls == 0) = false) (hc : x.cons = false) (hsh : x.shape = true) :
    Calls Tryd.prog 37 #[itv x ab nb cb ak 0 ck, .int .i64 D] w fun e w' => e = .returned (.int .i64 (sizV (enc (r + 1) x))) ∧ Below w.heap.size w w' := by
  have HR : Hid (Row w ab nb x.body) := hrow
  have HK : Hid (Kids (d + 1) w ak 0 x.kids) := hk
  have HL : Hid (x.kids.length = 0) := hk.1
  have hnk := hk.2.1
  have d1 : 0 ≤ D := by omega
  have d2 : D ≤ 13 := by omega
  have h12 : ¬ D > 12 := by omega
  have HD : Hid (D = 13 - ((r + 1 : Nat) : Int)) := hD
  have HW : Hid (0 + wtP d x.kids 0 ≤ 1048576) := by show _ ≤ _; rw [wtS_succ, hk.1] at hwt; exact hwt
  have HSH : Hid (x.shape = true) := hsh
  have HC : Hid (false = x.cons) := hc.symm
  clear hrow hk hD hwt hsh hc
  have hbl : Below w.heap.size w (w.alloc (.cells #[.int .i64 x.cls, .int .i64 x.tag, .bool false, .slice ab nb cb, .slice ak 0 ck] 26)) := (Below.refl _ _).alloc (Nat.le_refl _) _
  have hbx := boxed_new w x ab nb cb ak 0 ck
  rw [← HC.out] at hbx
  unfold itv
  rw [← HC.out]
  go_enter Tryd.func37, Tryd.ntmps37
  go_wp2_with fail
  refine (l1In_any x.cls 0 3 _).mono ?_
  rintro e w1 ⟨rfl, rfl⟩
  rw [decide_eq_true hcl]
  go_wp2_with fail
  refine (l1In_any x.tag 0 268435455 _).mono ?_
  rintro e w1 ⟨rfl, rfl⟩
  rw [decide_eq_true htg]
  go_wp2
  have HI : Hid (inX r x = some x.body) := by show _ = _; rw [inX, (shape_parts HSH.out).2 HC.out.symm, encK]
  have hl2 := l2Head_any x ab nb cb ak 0 ck nb (w.alloc (.cells #[.int .i64 x.cls, .int .i64 x.tag, .bool false, .slice ab nb cb, .slice ak 0 ck] 26)) hcl htg (by omega)
  unfold itv at hl2
  rw [← HC.out] at hl2
  refine wp_loop_rounds 2 ?_
  rw [rounds_succ]
  go_wp2_with fail
  refine hl2.mono ?_
  rintro e w3 ⟨a3, c3, rfl, ho3, hb3⟩
  have hh := headL_len x nb htg
  obtain ⟨nh, hnh⟩ : ∃ nh, nh = (headL x nb).length := ⟨_, rfl⟩
  have HNH : Hid (nh = (headL x nb).length) := hnh
  rw [← hnh] at hh ⊢
  clear hnh ho3
  have hb3' : Below w.heap.size w w3 := hbl.trans (hb3.mono hbl.size)
  have hll : Hid ((headL x x.body.length ++ x.body).length = nb + nh) := by show _ = _; rw [List.length_append, HR.out.len, ← HNH.out]; omega
  by_cases hlong : nb + nh ≤ 20000
  · have h3 : ¬ (nb : Int) + (nh : Int) > 20000 := by omega
    have HE : Hid (sizV (enc (r + 1) x) = (nb : Int) + (nh : Int)) := by
      show _ = _
      rw [enc_inX_some r x x.body HSH.out HI.out (by rw [hll.out]; exact hlong)]
      show ((headL x x.body.length ++ x.body).length : Int) = _
      rw [hll.out]
      omega
    go_wp2
    go_ret
    exact ⟨by rw [HE.out]; rfl, hb3'⟩
  · have h3 : (nb : Int) + (nh : Int) > 20000 := by omega
    have HE : Hid (sizV (enc (r + 1) x) = -1) := by
      show _ = _
      rw [enc_inX_long r x x.body HSH.out HI.out (by rw [hll.out]; exact hlong)]
      rfl
    go_wp2
    go_ret
    exact ⟨by rw [HE.out]; rfl, hb3'⟩

set_option maxRecDepth 10000 in
set_option maxHeartbeats 4000000 in
theorem sizeAt_next (d : Nat) (ih : SizeAt d) : SizeAt (d + 1) := by
  intro r D x ab nb cb ak nk ck w hr hD hrow hnb hk hwt
  have HR : Hid (Row w ab nb x.body) := hrow
  have HK : Hid (Kids (d + 1) w ak nk x.kids) := hk
  have HL : Hid (x.kids.length = nk) := hk.1
  have hnk := hk.2.1
  have d1 : 0 ≤ D := by omega
  have d2 : D ≤ 13 := by omega
  have HD : Hid (D = 13 - (r : Int)) := hD
  have HW : Hid (nk + wtP d x.kids nk ≤ 1048576) := by show _ ≤ _; rw [wtS_succ, hk.1] at hwt; exact hwt
  have hnk2 : nk ≤ 1048576 := by have := HW.out; omega
  clear hrow hk hD hwt
  have hbl : Below w.heap.size w (w.alloc (.cells #[.int .i64 x.cls, .int .i64 x.tag, .bool x.cons, .slice ab nb cb, .slice ak nk ck] 26)) := (Below.refl _ _).alloc (Nat.le_refl _) _
  cases r with
  | zero =>
    have h12 : D > 12 := by have := HD.out; omega
    have HE : Hid (sizV (enc 0 x) = -1) := by show _ = _; rw [enc]; rfl
    unfold itv
    go_enter Tryd.func37, Tryd.ntmps37
    go_wp2
    go_ret
    exact ⟨by rw [HE.out]; rfl, hbl⟩
  | succ r =>
    have h12 : ¬ D > 12 := by have := HD.out; omega
    unfold itv
    by_cases hcl : 0 ≤ x.cls ∧ x.cls ≤ 3
    · by_cases htg : 0 ≤ x.tag ∧ x.tag ≤ 268435455
      · by_cases h00 : x.cls = 0 ∧ x.tag = 0
        · have z1 : (x.cls == 0) = true := by simp [h00.1]
          have z2 : (x.tag == 0) = true := by simp [h00.2]
          have HE : Hid (sizV (enc (r + 1) x) = -1) := by
            show _ = _
            rw [enc_shape r x (by unfold It.shape; rw [decide_eq_false (fun h => h.2.2.2.2 h00)]; rfl)]
            rfl
          clear h00
          go_enter Tryd.func37, Tryd.ntmps37
          go_wp2_with fail
          refine (l1In_any x.cls 0 3 _).mono ?_
          rintro e w1 ⟨rfl, rfl⟩
          rw [decide_eq_true hcl]
          go_wp2_with fail
          refine (l1In_any x.tag 0 268435455 _).mono ?_
          rintro e w1 ⟨rfl, rfl⟩
          rw [decide_eq_true htg]
          go_wp2
          go_ret
          exact ⟨by rw [HE.out]; rfl, hbl⟩
        · have hz : ((x.cls == 0) = true ∧ (x.tag == 0) = false) ∨ (x.cls == 0) = false := by
            by_cases h0 : x.cls = 0
            · exact .inl ⟨by simp [h0], by simp; exact fun h => h00 ⟨h0, h⟩⟩
            · exact .inr (by simp [h0])
          have e1 : x.body.isEmpty = decide (nb = 0) := by rw [← HR.out.len]; cases x.body <;> simp
          have e2 : x.kids.isEmpty = decide (nk = 0) := by rw [← HL.out]; cases x.kids <;> simp
          have HS : Hid (x.shape = (if x.cons then decide (nb = 0) else decide (nk = 0))) := by
            show _ = _
            rw [It.shape, e1, e2, decide_eq_true ⟨hcl.1, hcl.2, htg.1, htg.2, h00⟩, Bool.true_and]
          clear e1 e2 h00
          obtain ⟨co, hco⟩ : ∃ co, co = x.cons := ⟨_, rfl⟩
          have HC : Hid (co = x.cons) := hco
          have hwt : wtS (d + 1) x.kids ≤ 1048576 := by rw [wtS_succ, HL.out]; exact HW.out
          cases co with
          | true =>
            by_cases hnb0 : nb = 0
            · subst hnb0
              have hsh : x.shape = true := by rw [HS.out, ← HC.out]; rfl
              rcases hz with ⟨z1, z2⟩ | z1
              · exact sizeC1 d ih r D x ab cb ak nk ck w hr HD.out HR.out HK.out hwt hcl htg z1 z2 hco.symm hsh
              · exact sizeC2 d ih r D x ab cb ak nk ck w hr HD.out HR.out HK.out hwt hcl htg z1 hco.symm hsh
            · have HE : Hid (sizV (enc (r + 1) x) = -1) := by
                show _ = _
                rw [enc_shape r x (by rw [HS.out, ← HC.out, if_pos rfl, decide_eq_false hnb0])]
                rfl
              have g0 : (nb : Int) > 0 := by omega
              rw [← hco] at hbl ⊢
              clear hco
              rcases hz with ⟨z1, z2⟩ | z1
              · skip
                go_enter Tryd.func37, Tryd.ntmps37
                go_wp2_with fail
                refine (l1In_any x.cls 0 3 _).mono ?_
                rintro e w1 ⟨rfl, rfl⟩
                rw [decide_eq_true hcl]
                go_wp2_with fail
                refine (l1In_any x.tag 0 268435455 _).mono ?_
                rintro e w1 ⟨rfl, rfl⟩
                rw [decide_eq_true htg]
                go_wp2
                go_ret
                exact ⟨by rw [HE.out]; rfl, hbl⟩
              · skip
                go_enter Tryd.func37, Tryd.ntmps37
                go_wp2_with fail
                refine (l1In_any x.cls 0 3 _).mono ?_
                rintro e w1 ⟨rfl, rfl⟩
                rw [decide_eq_true hcl]
                go_wp2_with fail
                refine (l1In_any x.tag 0 268435455 _).mono ?_
                rintro e w1 ⟨rfl, rfl⟩
                rw [decide_eq_true htg]
                go_wp2
                go_ret
                exact ⟨by rw [HE.out]; rfl, hbl⟩
          | false =>
            by_cases hnb0 : nk = 0
            · subst hnb0
              have hsh : x.shape = true := by rw [HS.out, ← HC.out]; rfl
              rcases hz with ⟨z1, z2⟩ | z1
              · exact sizeF1 d r D x ab nb cb ak ck w hr HD.out HR.out hnb HK.out hwt hcl htg z1 z2 hco.symm hsh
              · exact sizeF2 d r D x ab nb cb ak ck w hr HD.out HR.out hnb HK.out hwt hcl htg z1 hco.symm hsh
            · have HE : Hid (sizV (enc (r + 1) x) = -1) := by
                show _ = _
                rw [enc_shape r x (by rw [HS.out, ← HC.out, if_neg (by decide), decide_eq_false hnb0])]
                rfl
              have g0 : (nk : Int) > 0 := by omega
              rw [← hco] at hbl ⊢
              clear hco
              rcases hz with ⟨z1, z2⟩ | z1
              · skip
                go_enter Tryd.func37, Tryd.ntmps37
                go_wp2_with fail
                refine (l1In_any x.cls 0 3 _).mono ?_
                rintro e w1 ⟨rfl, rfl⟩
                rw [decide_eq_true hcl]
                go_wp2_with fail
                refine (l1In_any x.tag 0 268435455 _).mono ?_
                rintro e w1 ⟨rfl, rfl⟩
                rw [decide_eq_true htg]
                go_wp2
                go_ret
                exact ⟨by rw [HE.out]; rfl, hbl⟩
              · skip
                go_enter Tryd.func37, Tryd.ntmps37
                go_wp2_with fail
                refine (l1In_any x.cls 0 3 _).mono ?_
                rintro e w1 ⟨rfl, rfl⟩
                rw [decide_eq_true hcl]
                go_wp2_with fail
                refine (l1In_any x.tag 0 268435455 _).mono ?_
                rintro e w1 ⟨rfl, rfl⟩
                rw [decide_eq_true htg]
                go_wp2
                go_ret
                exact ⟨by rw [HE.out]; rfl, hbl⟩
      · have HE : Hid (sizV (enc (r + 1) x) = -1) := by
          show _ = _
          rw [enc_shape r x (by unfold It.shape; rw [decide_eq_false (fun h => htg ⟨h.2.2.1, h.2.2.2.1⟩)]; rfl)]
          rfl
        go_enter Tryd.func37, Tryd.ntmps37
        go_wp2_with fail
        refine (l1In_any x.cls 0 3 _).mono ?_
        rintro e w1 ⟨rfl, rfl⟩
        rw [decide_eq_true hcl]
        go_wp2_with fail
        refine (l1In_any x.tag 0 268435455 _).mono ?_
        rintro e w1 ⟨rfl, rfl⟩
        rw [decide_eq_false htg]
        go_wp2
        go_ret
        exact ⟨by rw [HE.out]; rfl, hbl⟩
    · have HE : Hid (sizV (enc (r + 1) x) = -1) := by
        show _ = _
        rw [enc_shape r x (by unfold It.shape; rw [decide_eq_false (fun h => hcl ⟨h.1, h.2.1⟩)]; rfl)]
        rfl
      go_enter Tryd.func37, Tryd.ntmps37
      go_wp2_with fail
      refine (l1In_any x.cls 0 3 _).mono ?_
      rintro e w1 ⟨rfl, rfl⟩
      rw [decide_eq_false hcl]
      go_wp2
      go_ret
      exact ⟨by rw [HE.out]; rfl, hbl⟩

theorem sizeAt_all (d : Nat) : SizeAt d := by
  induction d with
  | zero => intro r D x ab nb cb ak nk ck w _ _ _ _ h; exact h.elim
  | succ d ih => exact sizeAt_next d ih

end Go.Proofs.YtjkkokjojaknkaaDoor
