import Derived.Test.YtglmaoigjnoklaaG2
import Derived.Test.YtglmaoigjnoklaaF10
import Derived.Test.YtglmaoigjnoklaaS10
namespace Go.Proofs.Ytglmaoigjnoklaa
open Go.RowKit

theorem open_lo (xs : List ST) (h : schP xs) (t : Nat) (ht : t < xs.length) (h9 : (xs.getD t default).kind = 9) : 0 ≤ (xs.getD t default).lo ∧ (xs.getD t default).lo ≤ 12 := by
  obtain ⟨_, _, hF, _, hO, hU⟩ := h
  have hu := (hU t ht).2 h9
  have hne : cN true xs xs.length t ≠ 0 := by omega
  have hex : ∃ t', t' < xs.length ∧ ((xs.getD t' default).kind == 6) = true ∧ ∃ j, j < (xs.getD t' default).kids.length ∧ ((xs.getD t' default).kids.getD j 0).toNat = t := by
    apply Classical.byContradiction
    intro hno
    refine hne (cN_zero true xs xs.length t (fun t' ht' hb j hj he => hno ⟨t', ht', hb, j, hj, he⟩))
  obtain ⟨t', ht', h6, j, hj, he⟩ := hex
  have h6' : (xs.getD t' default).kind = 6 := by simpa using h6
  have ha := hO t' ht' j hj h6' (by rw [he]; exact h9)
  rw [he] at ha
  have hk := fieldsP_12 (hF t' ht').1
  unfold aheadP at ha
  exact ⟨ha.1, by have := ha.2.1; omega⟩

set_option maxRecDepth 10000 in
set_option maxHeartbeats 4000000 in
theorem l3Face_any (a : Option Addr) (n c : Nat) (xs : List ST) (t : Int) (w : World) (h : Sts w a n xs) :
    Calls Try.prog 23 #[.slice a n c, .int .i64 t] w fun e w' => Tells (faceP xs t) w e w' := by
  have HS : Hid (Sts w a n xs) := h
  have HL : Hid (xs.length = n) := h.len
  have hn := h.max
  clear h
  go_enter Try.func23, Try.ntmps23
  go_wp2_with fail
  refine (specSchemaOk_any a n c xs _ HS.out).mono ?_
  rintro e w1 ⟨bv, rfl, hbv, hb1⟩
  cases bv with
  | false =>
    have HN : Hid (¬ faceP xs t) := fun h => by have := hbv.out.mpr ((sch_spc xs).mp h.1); cases this
    clear hbv
    go_wp2
    go_ret
    exact ⟨false, rfl, (by show _ ↔ _; simp only [Bool.false_eq_true, false_iff]; exact HN.out), hb1⟩
  | true =>
    have HP : Hid (schP xs) := (sch_spc xs).mpr (hbv.out.mp rfl)
    clear hbv
    by_cases h0 : ¬ t ≥ 0
    · have HN : Hid (¬ faceP xs t) := fun h => by have := h.2.1; omega
      go_wp2
      go_ret
      exact ⟨false, rfl, (by show _ ↔ _; simp only [Bool.false_eq_true, false_iff]; exact HN.out), hb1⟩
    · by_cases h2 : ¬ t < (n : Int)
      · have HN : Hid (¬ faceP xs t) := fun h => by have := h.2.2.1; rw [HL.out] at this; omega
        go_wp2
        go_ret
        exact ⟨false, rfl, (by show _ ↔ _; simp only [Bool.false_eq_true, false_iff]; exact HN.out), hb1⟩
      · obtain ⟨m, rfl⟩ : ∃ m : Nat, t = (m : Int) := ⟨t.toNat, by omega⟩
        have hmn : m < n := by omega
        obtain ⟨b, off, rfl, hlb, ak, nk, ck, hcs, _, _⟩ := HS.out.get m hmn
        obtain ⟨x, hx⟩ : ∃ x, x = xs.getD m default := ⟨_, rfl⟩
        rw [← hx] at hcs
        have HA : Hid (faceP xs (m : Int) ↔ (x.opt = false ∧ x.kind ≠ 9)) := by
          show _ ↔ _
          unfold faceP
          rw [Int.toNat_natCast, ← hx, HL.out]
          exact ⟨fun h => h.2.2.2, fun h => ⟨HP.out, by omega, by omega, h⟩⟩
        obtain ⟨c0, _, _, _, c4, _⟩ := hcs.of (w' := w1) (fun i => hb1.cell (p := ⟨b, i, none⟩) hlb)
        have t2 : (m : Int) < (n : Int) := by omega
        have t3 : (0 : Int) ≤ (m : Int) := by omega
        obtain ⟨op, hop⟩ : ∃ op, op = x.opt := ⟨_, rfl⟩
        have HO : Hid (op = x.opt) := hop
        rw [← hop] at c4
        clear hcs hx hop h0 h2
        cases op with
        | true =>
          go_wp2
          go_ret
          exact ⟨false, rfl, (by show _ ↔ _; rw [HA.out, ← HO.out]; simp), hb1⟩
        | false =>
          by_cases h9 : x.kind = 9
          · have z : (x.kind != 9) = false := by simp [h9]
            have HK : Hid (x.kind = 9) := h9
            clear h9
            go_wp2
            go_ret
            exact ⟨false, rfl, (by show _ ↔ _; rw [HA.out, HK.out]; simp), hb1⟩
          · have z : (x.kind != 9) = true := by simp [h9]
            have HK : Hid (¬ x.kind = 9) := h9
            clear h9
            go_wp2
            go_ret
            exact ⟨true, rfl, (by show _ ↔ _; rw [HA.out, ← HO.out]; simp [HK.out]), hb1⟩

set_option maxHeartbeats 4000000 in
theorem specFewest_any (a : Option Addr) (n c : Nat) (xs : List ST) (t : Int) (w : World) (h : Sts w a n xs) :
    Calls Try.prog 11 #[.slice a n c, .int .i64 t] w fun e w' => ∃ r, e = .returned (.int .i64 r) ∧ Hid ((faceP xs t → r = (spA xs xs.length t.toNat).f) ∧ (¬ faceP xs t → r = -1)) ∧ Below w.heap.size w w' := by
  have HS : Hid (Sts w a n xs) := h
  have HL : Hid (xs.length = n) := h.len
  clear h
  go_enter Try.func11, Try.ntmps11
  go_wp2_with fail
  refine (l3Face_any a n c xs t _ HS.out).mono ?_
  rintro e w1 ⟨bv, rfl, hbv, hb1⟩
  cases bv with
  | false =>
    have HN : Hid (¬ faceP xs t) := fun h => by have := hbv.out.mpr h; cases this
    clear hbv
    go_wp2
    go_ret
    exact ⟨_, rfl, ⟨fun h => absurd h HN.out, fun _ => rfl⟩, hb1⟩
  | true =>
    have HP : Hid (faceP xs t) := hbv.out.mp rfl
    clear hbv
    have h1 := HP.out.2.1
    have h2 := HP.out.2.2.1
    rw [HL.out] at h2
    obtain ⟨m, rfl⟩ : ∃ m : Nat, t = (m : Int) := ⟨t.toNat, by omega⟩
    have h40 : n ≤ 40 := by have := HP.out.1.2.1; rw [HL.out] at this; exact this
    go_wp2_with fail
    refine (l4Bounds_any a n c xs _ (HS.out.kept hb1) h40 (fun t ht => (HP.out.1.2.2.1 t (by rw [HL.out]; exact ht)).1) (fun t ht => by have := (HP.out.1.2.2.1 t (by rw [HL.out]; exact ht)).2; rw [HL.out] at this; exact this) (fun t ht => open_lo xs HP.out.1 t (by rw [HL.out]; exact ht))).mono ?_
    rintro e w2 ⟨g1, g2, rfl, ha1, ha2, hb2⟩
    have hB2 : Below w.heap.size w w2 := hb1.trans (hb2.mono hb1.size)
    have y1 := ha1.cell m (by omega)
    have y2 := ha2.cell m (by omega)
    obtain ⟨q, hq⟩ : ∃ q, q = spA xs n m := ⟨_, rfl⟩
    rw [← hq] at y1 y2
    have HQ : Hid (q = spA xs n m) := hq
    clear ha1 ha2 hq hb2 hb1
    go_wp2
    go_ret
    exact ⟨_, rfl, ⟨fun _ => by rw [Int.toNat_natCast, HL.out, ← HQ.out], fun h => absurd HP.out h⟩, hB2⟩

set_option maxHeartbeats 4000000 in
theorem specMost_any (a : Option Addr) (n c : Nat) (xs : List ST) (t : Int) (w : World) (h : Sts w a n xs) :
    Calls Try.prog 13 #[.slice a n c, .int .i64 t] w fun e w' => ∃ r, e = .returned (.int .i64 r) ∧ Hid ((faceP xs t → r = (spA xs xs.length t.toNat).hi) ∧ (¬ faceP xs t → r = -1)) ∧ Below w.heap.size w w' := by
  have HS : Hid (Sts w a n xs) := h
  have HL : Hid (xs.length = n) := h.len
  clear h
  go_enter Try.func13, Try.ntmps13
  go_wp2_with fail
  refine (l3Face_any a n c xs t _ HS.out).mono ?_
  rintro e w1 ⟨bv, rfl, hbv, hb1⟩
  cases bv with
  | false =>
    have HN : Hid (¬ faceP xs t) := fun h => by have := hbv.out.mpr h; cases this
    clear hbv
    go_wp2
    go_ret
    exact ⟨_, rfl, ⟨fun h => absurd h HN.out, fun _ => rfl⟩, hb1⟩
  | true =>
    have HP : Hid (faceP xs t) := hbv.out.mp rfl
    clear hbv
    have h1 := HP.out.2.1
    have h2 := HP.out.2.2.1
    rw [HL.out] at h2
    obtain ⟨m, rfl⟩ : ∃ m : Nat, t = (m : Int) := ⟨t.toNat, by omega⟩
    have h40 : n ≤ 40 := by have := HP.out.1.2.1; rw [HL.out] at this; exact this
    go_wp2_with fail
    refine (l4Bounds_any a n c xs _ (HS.out.kept hb1) h40 (fun t ht => (HP.out.1.2.2.1 t (by rw [HL.out]; exact ht)).1) (fun t ht => by have := (HP.out.1.2.2.1 t (by rw [HL.out]; exact ht)).2; rw [HL.out] at this; exact this) (fun t ht => open_lo xs HP.out.1 t (by rw [HL.out]; exact ht))).mono ?_
    rintro e w2 ⟨g1, g2, rfl, ha1, ha2, hb2⟩
    have hB2 : Below w.heap.size w w2 := hb1.trans (hb2.mono hb1.size)
    have y1 := ha1.cell m (by omega)
    have y2 := ha2.cell m (by omega)
    obtain ⟨q, hq⟩ : ∃ q, q = spA xs n m := ⟨_, rfl⟩
    rw [← hq] at y1 y2
    have HQ : Hid (q = spA xs n m) := hq
    clear ha1 ha2 hq hb2 hb1
    go_wp2
    go_ret
    exact ⟨_, rfl, ⟨fun _ => by rw [Int.toNat_natCast, HL.out, ← HQ.out], fun h => absurd HP.out h⟩, hB2⟩

end Go.Proofs.Ytglmaoigjnoklaa
