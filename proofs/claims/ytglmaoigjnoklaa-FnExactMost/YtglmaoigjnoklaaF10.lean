import Derived.Test.YtglmaoigjnoklaaF9
import Derived.Test.YtglmaoigjnoklaaS9
namespace Go.Proofs.Ytglmaoigjnoklaa
open Go.RowKit

/-- A type that means something alone. -/
def faceP (xs : List ST) (t : Int) : Prop := schP xs ∧ 0 ≤ t ∧ t < xs.length ∧ (xs.getD t.toNat default).opt = false ∧ (xs.getD t.toNat default).kind ≠ 9

set_option maxRecDepth 10000 in
set_option maxHeartbeats 4000000 in
theorem typeOk_any (a : Option Addr) (n c : Nat) (xs : List ST) (t : Int) (w : World) (h : Sts w a n xs) :
    Calls Try.prog 25 #[.slice a n c, .int .i64 t] w fun e w' => Tells (faceP xs t) w e w' := by
  have HS : Hid (Sts w a n xs) := h
  have HL : Hid (xs.length = n) := h.len
  have hn := h.max
  clear h
  go_enter Try.func25, Try.ntmps25
  go_wp2_with fail
  refine (implSchemaOk_any a n c xs _ HS.out).mono ?_
  rintro e w1 ⟨bv, rfl, hbv, hb1⟩
  cases bv with
  | false =>
    have HN : Hid (¬ faceP xs t) := fun h => by have := hbv.out.mpr h.1; cases this
    clear hbv
    go_wp2
    go_ret
    exact ⟨false, rfl, (by show _ ↔ _; simp only [Bool.false_eq_true, false_iff]; exact HN.out), hb1⟩
  | true =>
    have HP : Hid (schP xs) := hbv.out.mp rfl
    clear hbv
    by_cases h0 : t < 0
    · have HN : Hid (¬ faceP xs t) := fun h => by have := h.2.1; omega
      go_wp2
      go_ret
      exact ⟨false, rfl, (by show _ ↔ _; simp only [Bool.false_eq_true, false_iff]; exact HN.out), hb1⟩
    · by_cases h2 : t ≥ (n : Int)
      · have HN : Hid (¬ faceP xs t) := fun h => by have := h.2.2.1; rw [HL.out] at this; omega
        go_wp2
        go_ret
        exact ⟨false, rfl, (by show _ ↔ _; simp only [Bool.false_eq_true, false_iff]; exact HN.out), hb1⟩
      · obtain ⟨m, rfl⟩ : ∃ m : Nat, t = (m : Int) := ⟨t.toNat, by omega⟩
        have hmn : m < n := by omega
        obtain ⟨b, off, rfl, hlb, ak, nk, ck, hcs, _, _⟩ := HS.out.get m hmn
        obtain ⟨x, hx⟩ : ∃ x, x = xs.getD m default := ⟨_, rfl⟩
        rw [← hx] at hcs
        have HA : Hid (faceP xs (m : Int) ↔ (x.opt = false ∧ x.kind ≠ 9)) := by
          show _ ↔ _
          unfold faceP
          rw [Int.toNat_natCast, ← hx, HL.out]
          exact ⟨fun h => h.2.2.2, fun h => ⟨HP.out, by omega, by omega, h⟩⟩
        obtain ⟨c0, _, _, _, c4, _⟩ := hcs.of (w' := w1) (fun i => hb1.cell (p := ⟨b, i, none⟩) hlb)
        have t2 : (m : Int) < (n : Int) := by omega
        have t3 : (0 : Int) ≤ (m : Int) := by omega
        obtain ⟨op, hop⟩ : ∃ op, op = x.opt := ⟨_, rfl⟩
        have HO : Hid (op = x.opt) := hop
        rw [← hop] at c4
        clear hcs hx hop h0 h2
        cases op with
        | true =>
          go_wp2
          go_ret
          exact ⟨false, rfl, (by show _ ↔ _; rw [HA.out, ← HO.out]; simp), hb1⟩
        | false =>
          by_cases h9 : x.kind = 9
          · have z : (x.kind != 9) = false := by simp [h9]
            have HK : Hid (x.kind = 9) := h9
            clear h9
            go_wp2
            go_ret
            exact ⟨false, rfl, (by show _ ↔ _; rw [HA.out, HK.out]; simp), hb1⟩
          · have z : (x.kind != 9) = true := by simp [h9]
            have HK : Hid (¬ x.kind = 9) := h9
            clear h9
            go_wp2
            go_ret
            exact ⟨true, rfl, (by show _ ↔ _; rw [HA.out, ← HO.out]; simp [HK.out]), hb1⟩

set_option maxHeartbeats 4000000 in
theorem implFewest_any (a : Option Addr) (n c : Nat) (xs : List ST) (t : Int) (w : World) (h : Sts w a n xs) :
    Calls Try.prog 12 #[.slice a n c, .int .i64 t] w fun e w' => ∃ r, e = .returned (.int .i64 r) ∧ Hid ((faceP xs t → r = (spA xs xs.length t.toNat).f) ∧ (¬ faceP xs t → r = -1)) ∧ Below w.heap.size w w' := by
  have HS : Hid (Sts w a n xs) := h
  have HL : Hid (xs.length = n) := h.len
  clear h
  go_enter Try.func12, Try.ntmps12
  go_wp2_with fail
  refine (typeOk_any a n c xs t _ HS.out).mono ?_
  rintro e w1 ⟨bv, rfl, hbv, hb1⟩
  cases bv with
  | false =>
    have HN : Hid (¬ faceP xs t) := fun h => by have := hbv.out.mpr h; cases this
    clear hbv
    go_wp2
    go_ret
    exact ⟨_, rfl, ⟨fun h => absurd h HN.out, fun _ => rfl⟩, hb1⟩
  | true =>
    have HP : Hid (faceP xs t) := hbv.out.mp rfl
    clear hbv
    have h1 := HP.out.2.1
    have h2 := HP.out.2.2.1
    rw [HL.out] at h2
    obtain ⟨m, rfl⟩ : ∃ m : Nat, t = (m : Int) := ⟨t.toNat, by omega⟩
    have h40 : n ≤ 40 := by have := HP.out.1.2.1; rw [HL.out] at this; exact this
    go_wp2_with fail
    refine (spansOf_any a n c xs _ (HS.out.kept hb1) h40 (fun t ht => (HP.out.1.2.2.1 t (by rw [HL.out]; exact ht)).1) (fun t ht => by have := (HP.out.1.2.2.1 t (by rw [HL.out]; exact ht)).2; rw [HL.out] at this; exact this)).mono ?_
    rintro e w2 ⟨g, rfl, hsp, hb2⟩
    have hB2 : Below w.heap.size w w2 := hb1.trans (hb2.mono hb1.size)
    obtain ⟨y0, y1, y2⟩ := hsp.cell m (by omega)
    obtain ⟨q, hq⟩ : ∃ q, q = spA xs n m := ⟨_, rfl⟩
    rw [← hq] at y0 y1 y2
    have HQ : Hid (q = spA xs n m) := hq
    clear hsp hq hb2 hb1
    go_wp2
    go_ret
    exact ⟨_, rfl, ⟨fun _ => by rw [Int.toNat_natCast, HL.out, ← HQ.out], fun h => absurd HP.out h⟩, hB2⟩

set_option maxHeartbeats 4000000 in
theorem implMost_any (a : Option Addr) (n c : Nat) (xs : List ST) (t : Int) (w : World) (h : Sts w a n xs) :
    Calls Try.prog 14 #[.slice a n c, .int .i64 t] w fun e w' => ∃ r, e = .returned (.int .i64 r) ∧ Hid ((faceP xs t → r = (spA xs xs.length t.toNat).hi) ∧ (¬ faceP xs t → r = -1)) ∧ Below w.heap.size w w' := by
  have HS : Hid (Sts w a n xs) := h
  have HL : Hid (xs.length = n) := h.len
  clear h
  go_enter Try.func14, Try.ntmps14
  go_wp2_with fail
  refine (typeOk_any a n c xs t _ HS.out).mono ?_
  rintro e w1 ⟨bv, rfl, hbv, hb1⟩
  cases bv with
  | false =>
    have HN : Hid (¬ faceP xs t) := fun h => by have := hbv.out.mpr h; cases this
    clear hbv
    go_wp2
    go_ret
    exact ⟨_, rfl, ⟨fun h => absurd h HN.out, fun _ => rfl⟩, hb1⟩
  | true =>
    have HP : Hid (faceP xs t) := hbv.out.mp rfl
    clear hbv
    have h1 := HP.out.2.1
    have h2 := HP.out.2.2.1
    rw [HL.out] at h2
    obtain ⟨m, rfl⟩ : ∃ m : Nat, t = (m : Int) := ⟨t.toNat, by omega⟩
    have h40 : n ≤ 40 := by have := HP.out.1.2.1; rw [HL.out] at this; exact this
    go_wp2_with fail
    refine (spansOf_any a n c xs _ (HS.out.kept hb1) h40 (fun t ht => (HP.out.1.2.2.1 t (by rw [HL.out]; exact ht)).1) (fun t ht => by have := (HP.out.1.2.2.1 t (by rw [HL.out]; exact ht)).2; rw [HL.out] at this; exact this)).mono ?_
    rintro e w2 ⟨g, rfl, hsp, hb2⟩
    have hB2 : Below w.heap.size w w2 := hb1.trans (hb2.mono hb1.size)
    obtain ⟨y0, y1, y2⟩ := hsp.cell m (by omega)
    obtain ⟨q, hq⟩ : ∃ q, q = spA xs n m := ⟨_, rfl⟩
    rw [← hq] at y0 y1 y2
    have HQ : Hid (q = spA xs n m) := hq
    have hB3 : ∀ o, Below w.heap.size w (w2.alloc o) := fun o => hB2.alloc hB2.size o
    clear hsp hq hb2 hb1
    obtain ⟨qf, qm, qk⟩ := q
    dsimp only at y0 y1 y2
    cases qk with
    | true =>
      go_wp2
      go_ret
      exact ⟨_, rfl, ⟨fun _ => by rw [Int.toNat_natCast, HL.out, ← HQ.out]; rfl, fun h => absurd HP.out h⟩, hB3 _⟩
    | false =>
      go_wp2
      go_ret
      exact ⟨_, rfl, ⟨fun _ => by rw [Int.toNat_natCast, HL.out, ← HQ.out]; rfl, fun h => absurd HP.out h⟩, hB3 _⟩

end Go.Proofs.Ytglmaoigjnoklaa
